import Derived.Test.YtaomfjgleddpdaaGreatN2
import Derived.Test.YtaomfjgleddpdaaGreatB6
import Derived.Test.YtaomfjgleddpdaaGreatB2
import Derived.Test.YtaomfjgleddpdaaGreatN1
import Derived.Test.YtaomfjgleddpdaaGreatB9
set_option linter.unusedVariables false
set_option linter.unusedSimpArgs false

/- The reference's Days. -/
namespace Go.Proofs.YtaomfjgleddpdaaGreat
open Go.RowKit
attribute [local go_sem] Oper.semAt_some

theorem infoRange : (Tryz.prog.info? 26).map (fun i => (i.zero, i.size, i.bytes)) = some (some (.agg #[.int .i64 0, .int .i64 0]), 2, 16) := by kernel_rfl
theorem boxa_nine {W : World} {B : Nat} {d : Deed} (h : BoxA W B 28 #[.int .i64 d.par, .int .i64 d.no, .int .i64 d.kind, .int .i64 d.lock, .int .i64 d.person, .int .i64 d.lo, .int .i64 d.hi, .int .i64 d.known, .int .i64 d.til]) : World.cell? W ⟨B, 0, none⟩ = some (.int .i64 d.par) ∧ World.cell? W ⟨B, 1, none⟩ = some (.int .i64 d.no) ∧ World.cell? W ⟨B, 2, none⟩ = some (.int .i64 d.kind) ∧ World.cell? W ⟨B, 3, none⟩ = some (.int .i64 d.lock) ∧ World.cell? W ⟨B, 4, none⟩ = some (.int .i64 d.person) ∧ World.cell? W ⟨B, 5, none⟩ = some (.int .i64 d.lo) ∧ World.cell? W ⟨B, 6, none⟩ = some (.int .i64 d.hi) ∧ World.cell? W ⟨B, 7, none⟩ = some (.int .i64 d.known) ∧ World.cell? W ⟨B, 8, none⟩ = some (.int .i64 d.til) :=
  ⟨h.cell 0, h.cell 1, h.cell 2, h.cell 3, h.cell 4, h.cell 5, h.cell 6, h.cell 7, h.cell 8⟩
theorem boxa_other {W : World} {B : Nat} {t : TypeId} {cs : Array Value} (h : BoxA W B t cs) {a : Addr} (ha : B ≠ a.block) (v : Value) : BoxA (W.setCell a v) B t cs := (Below.heap_setCell _ _ _ _ ha).trans h

/-- What a deed makes of the days of another one of its thread. -/
def rStep (d : Deed) (i : Nat) (r : Int × Int) (p : Deed × Nat) : Int × Int :=
  (if sameB d p.1 = true ∧ p.2 < i then max r.1 p.1.lo else r.1, if sameB d p.1 = true ∧ i < p.2 then min r.2 p.1.hi else r.2)
def rngI (l : List (Deed × Nat)) (d : Deed) (i : Nat) : Int × Int := l.foldl (rStep d i) (d.lo, d.hi)
/-- For each deed the days that it may truly have had. -/
def dayL (ds : List Deed) : List (Int × Int) := ds.zipIdx.map fun p => rngI ds.zipIdx p.1 p.2
theorem idx_at {ds : List Deed} {k : Nat} {d : Deed} (h : ds[k]? = some d) : ds.zipIdx[k]? = some (d, k) := by
  rw [List.getElem?_zipIdx, h]
  simp
theorem rngI_snoc {ds : List Deed} {j : Nat} {o : Deed} (h : ds[j]? = some o) (d : Deed) (i : Nat) : rngI (ds.zipIdx.take (j + 1)) d i = rStep d i (rngI (ds.zipIdx.take j) d i) (o, j) := by
  rw [take_snoc_some (idx_at h), rngI, List.foldl_append]
  rfl
theorem dayL_len (ds : List Deed) : (dayL ds).length = ds.length := by simp [dayL]
theorem dayL_at {ds : List Deed} {k : Nat} {d : Deed} (h : ds[k]? = some d) : (dayL ds)[k]? = some (rngI ds.zipIdx d k) := by
  rw [dayL, List.getElem?_map, idx_at h]
  rfl
theorem itemCells_append (a b : List (Int × Int)) : itemCells (a ++ b) = itemCells a ++ itemCells b := by simp [itemCells]

def RetRg (l : List (Int × Int)) (w : World) (e : Ending) (w' : World) : Prop :=
  ∃ A c, e = .returned (.slice A l.length c) ∧ Below w.heap.size w w' ∧ Its w' w'.heap.size A l.length l ∧ l.length ≤ c

set_option maxRecDepth 100000 in
set_option maxHeartbeats 4000000 in
theorem r_Days (ds : List Deed) (A : Option Addr) (n c : Nat) (w : World) (hn : n ≤ 1000000) (hok : ∀ d ∈ ds, d.okB = true) (hd : Ds w w.heap.size A n ds) :
    Calls Tryz.prog 96 #[.slice A n c] w (RetRg (dayL ds) w) := by
  obtain ⟨i0, hi, hz0, hz1, hz2⟩ := info_parts infoRange
  have HD := Lib.hid hd
  have HL := Lib.hid hd.len
  have HO := Lib.hid hok
  clear hd hok
  go_enter Tryz.func96, Tryz.ntmps96
  go_wp2_with fail
  go_loopw [3, 11] (fun v i wr => ∃ k : Nat, k ≤ n ∧ i = .int .i64 k ∧ wr.ownsRow w.heap.size 26 2 v k (itemCells ((dayL ds).take k)) ∧ Below w.heap.size w wr) (fun _ i _ => n - (intOf i).toNat)
  case atStart => exact ⟨0, by omega, rfl, World.ownsRow_nil _ _ _ _, Below.refl _ _⟩
  case round =>
    obtain ⟨k, hk, rfl, hown, hB⟩ := hrel
    obtain ⟨wo, rfl⟩ : ∃ wo : World, wo = wr := ⟨_, rfl⟩
    have hs0 : w.heap.size ≤ wo.heap.size := hB.size
    have HB := Lib.hid hB
    obtain ⟨A0, c0, rfl, hcc⟩ := own_slice hown
    have HW := Lib.hid hown
    clear hB hown
    by_cases hlt : k < n
    · obtain ⟨b, o, d, rfl, hb, hdk, hat⟩ := (HD.out.ext HB.out (Nat.le_refl _)).at_ hlt
      have HK := Lib.hid hdk
      have HOD := Lib.hid (HO.out d (List.mem_of_getElem? hdk))
      clear hdk
      obtain ⟨a0, a1, a2, a3, a4, a5, a6, a7, a8⟩ := hat
      go_wp2_with fail
      go_loopw [20] (fun i w2 => ∃ j : Nat, j ≤ n ∧ i = .int .i64 j ∧ Below wo.heap.size wo w2 ∧ BoxA w2 wo.heap.size 28 #[.int .i64 d.par, .int .i64 d.no, .int .i64 d.kind, .int .i64 d.lock, .int .i64 d.person, .int .i64 d.lo, .int .i64 d.hi, .int .i64 d.known, .int .i64 d.til] ∧ BoxA w2 (wo.heap.size + 1) 26 #[.int .i64 (rngI (ds.zipIdx.take j) d k).1, .int .i64 (rngI (ds.zipIdx.take j) d k).2]) (fun i _ => n - (intOf i).toNat)
      case atStart =>
        refine ⟨0, by omega, rfl, by (repeat' (first | with_reducible exact Below.refl _ _ | with_reducible assumption | with_reducible refine Below.alloc ?_ ?_ _ | with_reducible refine Below.setCell ?_ ?_ _ | with_reducible refine Below.drew ?_ | (simp; done) | (simp; omega) | omega)), (BoxA.new _ _ _).alloc _, ?_⟩
        have h := BoxA.new (wo.alloc (.cells #[.int .i64 d.par, .int .i64 d.no, .int .i64 d.kind, .int .i64 d.lock, .int .i64 d.person, .int .i64 d.lo, .int .i64 d.hi, .int .i64 d.known, .int .i64 d.til] 28)) 26 #[.int .i64 d.lo, .int .i64 d.hi]
        simp only [World.size_alloc] at h
        exact h
      case round =>
        obtain ⟨j, hj, rfl, hB2, hbd, hbr⟩ := hrel
        clear a0 a1 a2 a3 a4 a5 a6 a7 a8
        have HB2 := Lib.hid hB2
        have HBD := Lib.hid hbd
        obtain ⟨r0, hr0⟩ : ∃ r, rngI (ds.zipIdx.take j) d k = r := ⟨_, rfl⟩
        rw [hr0] at hbr
        have HR0 := Lib.hid hr0
        have HBR := Lib.hid hbr
        have hs2 : wo.heap.size + 1 < wr.heap.size := hbr.lt
        clear hB2 hbd hbr hr0
        by_cases hlj : j < n
        · obtain ⟨f, hfj, hat⟩ := (HD.out.ext (Below.then_ HB.out HB2.out) (Nat.le_refl _)).get hlj
          have HJ := Lib.hid hfj
          have HOF := Lib.hid (HO.out f (List.mem_of_getElem? hfj))
          have HST := Lib.hid (rngI_snoc hfj d k)
          rw [HR0.out] at HST
          clear hfj
          obtain ⟨p0, p1, p2, p3, p4, p5, p6, p7, p8⟩ := hat
          obtain ⟨x0, x1, x2, x3, x4, x5, x6, x7, x8⟩ := boxa_nine HBD.out
          have hbo : wo.heap.size < wr.heap.size := by omega
          have hne : wo.heap.size ≠ wo.heap.size + 1 := by omega
          cases hsm : sameTB d f with
          | false =>
            have HSM := Lib.hid hsm
            have HSB : Hid (¬ sameB d f = true) := by show ¬ _; rw [← same_eq HOD.out HOF.out, hsm]; simp
            clear hsm
            go_wp2_with fail
            refine (r_sameThread_v d f false _ HSM.out).mono ?_
            rintro e w1 ⟨rfl, hb1⟩
            have HBN := Lib.hid (Below.then_ (HB2.out.alloc HB2.out.size (.cells #[.int .i64 f.par, .int .i64 f.no, .int .i64 f.kind, .int .i64 f.lock, .int .i64 f.person, .int .i64 f.lo, .int .i64 f.hi, .int .i64 f.known, .int .i64 f.til] 28)) hb1)
            have HBD1 := Lib.hid ((HBD.out.alloc (.cells #[.int .i64 f.par, .int .i64 f.no, .int .i64 f.kind, .int .i64 f.lock, .int .i64 f.person, .int .i64 f.lo, .int .i64 f.hi, .int .i64 f.known, .int .i64 f.til] 28)).ext hb1)
            have HBR1 := Lib.hid ((HBR.out.alloc (.cells #[.int .i64 f.par, .int .i64 f.no, .int .i64 f.kind, .int .i64 f.lock, .int .i64 f.person, .int .i64 f.lo, .int .i64 f.hi, .int .i64 f.known, .int .i64 f.til] 28)).ext hb1)
            have HBF1 := Lib.hid ((BoxA.new wr 28 #[.int .i64 f.par, .int .i64 f.no, .int .i64 f.kind, .int .i64 f.lock, .int .i64 f.person, .int .i64 f.lo, .int .i64 f.hi, .int .i64 f.known, .int .i64 f.til]).ext hb1)
            clear hb1 x0 x1 x2 x3 x4 x5 x6 x7 x8 p0 p1 p2 p3 p4 p5 p6 p7 p8
            obtain ⟨x0, x1, x2, x3, x4, x5, x6, x7, x8⟩ := boxa_nine HBD1.out
            obtain ⟨p0, p1, p2, p3, p4, p5, p6, p7, p8⟩ := boxa_nine HBF1.out
            go_wp2_with fail
            refine (r_sameThread_v d f false _ HSM.out).mono ?_
            rintro e w2 ⟨rfl, hb2⟩
            go_wp2_with fail
            go_roundw
            case rel => exact ⟨j + 1, by omega, by go_num, Below.then_ HBN.out hb2, HBD1.out.ext hb2, by rw [HST.out]; simp only [rStep, HSB.out, false_and, if_false]; exact HBR1.out.ext hb2⟩
            case measure => simp [intOf]; omega
          | true =>
            have HSM := Lib.hid hsm
            have HSB : Hid (sameB d f = true) := by show _ = _; rw [← same_eq HOD.out HOF.out, hsm]
            clear hsm
            rcases Nat.lt_trichotomy j k with hjk | hjk | hjk
            · have q1 : (j : Int) < (k : Int) := by omega
              have q2 : ¬ ((k : Int) < (j : Int)) := by omega
              go_wp2_with fail
              refine (r_sameThread_v d f true _ HSM.out).mono ?_
              rintro e w1 ⟨rfl, hb1⟩
              have HBN := Lib.hid (Below.then_ (HB2.out.alloc HB2.out.size (.cells #[.int .i64 f.par, .int .i64 f.no, .int .i64 f.kind, .int .i64 f.lock, .int .i64 f.person, .int .i64 f.lo, .int .i64 f.hi, .int .i64 f.known, .int .i64 f.til] 28)) hb1)
              have HBD1 := Lib.hid ((HBD.out.alloc (.cells #[.int .i64 f.par, .int .i64 f.no, .int .i64 f.kind, .int .i64 f.lock, .int .i64 f.person, .int .i64 f.lo, .int .i64 f.hi, .int .i64 f.known, .int .i64 f.til] 28)).ext hb1)
              have HBR1 := Lib.hid ((HBR.out.alloc (.cells #[.int .i64 f.par, .int .i64 f.no, .int .i64 f.kind, .int .i64 f.lock, .int .i64 f.person, .int .i64 f.lo, .int .i64 f.hi, .int .i64 f.known, .int .i64 f.til] 28)).ext hb1)
              have HBF1 := Lib.hid ((BoxA.new wr 28 #[.int .i64 f.par, .int .i64 f.no, .int .i64 f.kind, .int .i64 f.lock, .int .i64 f.person, .int .i64 f.lo, .int .i64 f.hi, .int .i64 f.known, .int .i64 f.til]).ext hb1)
              clear hb1 x0 x1 x2 x3 x4 x5 x6 x7 x8 p0 p1 p2 p3 p4 p5 p6 p7 p8
              obtain ⟨x0, x1, x2, x3, x4, x5, x6, x7, x8⟩ := boxa_nine HBD1.out
              obtain ⟨p0, p1, p2, p3, p4, p5, p6, p7, p8⟩ := boxa_nine HBF1.out
              have y0 := HBR1.out.cell 0
              have yf := boxa_frozen HBR1.out 0
              have hn1 : wr.heap.size ≠ wo.heap.size + 1 := by omega
              have hn2 : ¬ wr.heap.size = wo.heap.size + 1 := by omega
              go_wp2_with fail
              refine (r_sameThread_v d f true _ HSM.out).mono ?_
              rintro e w2 ⟨rfl, hb2⟩
              go_wp2_with fail
              go_roundw
              case rel =>
                refine ⟨j + 1, by omega, by go_num, Below.then_ (HBN.out.setCell (by simp) _) hb2, (boxa_other HBD1.out (by simp) _).ext hb2, ?_⟩
                have hst : rStep d k r0 (f, j) = (max r0.1 f.lo, r0.2) := by simp [rStep, HSB.out, hjk, Nat.lt_asymm hjk]
                rw [HST.out, hst]
                exact (boxa_set HBR1.out 0 _).ext hb2
              case measure => simp [intOf]; omega
            · have q1 : ¬ (j : Int) < (k : Int) := by omega
              have q2 : ¬ ((k : Int) < (j : Int)) := by omega
              have HJK := Lib.hid hjk
              clear hjk
              go_wp2_with fail
              refine (r_sameThread_v d f true _ HSM.out).mono ?_
              rintro e w1 ⟨rfl, hb1⟩
              have HBN := Lib.hid (Below.then_ (HB2.out.alloc HB2.out.size (.cells #[.int .i64 f.par, .int .i64 f.no, .int .i64 f.kind, .int .i64 f.lock, .int .i64 f.person, .int .i64 f.lo, .int .i64 f.hi, .int .i64 f.known, .int .i64 f.til] 28)) hb1)
              have HBD1 := Lib.hid ((HBD.out.alloc (.cells #[.int .i64 f.par, .int .i64 f.no, .int .i64 f.kind, .int .i64 f.lock, .int .i64 f.person, .int .i64 f.lo, .int .i64 f.hi, .int .i64 f.known, .int .i64 f.til] 28)).ext hb1)
              have HBR1 := Lib.hid ((HBR.out.alloc (.cells #[.int .i64 f.par, .int .i64 f.no, .int .i64 f.kind, .int .i64 f.lock, .int .i64 f.person, .int .i64 f.lo, .int .i64 f.hi, .int .i64 f.known, .int .i64 f.til] 28)).ext hb1)
              have HBF1 := Lib.hid ((BoxA.new wr 28 #[.int .i64 f.par, .int .i64 f.no, .int .i64 f.kind, .int .i64 f.lock, .int .i64 f.person, .int .i64 f.lo, .int .i64 f.hi, .int .i64 f.known, .int .i64 f.til]).ext hb1)
              clear hb1 x0 x1 x2 x3 x4 x5 x6 x7 x8 p0 p1 p2 p3 p4 p5 p6 p7 p8
              obtain ⟨x0, x1, x2, x3, x4, x5, x6, x7, x8⟩ := boxa_nine HBD1.out
              obtain ⟨p0, p1, p2, p3, p4, p5, p6, p7, p8⟩ := boxa_nine HBF1.out
              go_wp2_with fail
              refine (r_sameThread_v d f true _ HSM.out).mono ?_
              rintro e w2 ⟨rfl, hb2⟩
              go_wp2_with fail
              go_roundw
              case rel =>
                refine ⟨j + 1, by omega, by go_num, Below.then_ HBN.out hb2, HBD1.out.ext hb2, ?_⟩
                have hst : rStep d k r0 (f, j) = r0 := by have h := HJK.out; simp [rStep, HSB.out, h]
                rw [HST.out, hst]
                exact HBR1.out.ext hb2
              case measure => simp [intOf]; omega
            · have q1 : ¬ (j : Int) < (k : Int) := by omega
              have q2 : ((k : Int) < (j : Int)) := by omega
              go_wp2_with fail
              refine (r_sameThread_v d f true _ HSM.out).mono ?_
              rintro e w1 ⟨rfl, hb1⟩
              have HBN := Lib.hid (Below.then_ (HB2.out.alloc HB2.out.size (.cells #[.int .i64 f.par, .int .i64 f.no, .int .i64 f.kind, .int .i64 f.lock, .int .i64 f.person, .int .i64 f.lo, .int .i64 f.hi, .int .i64 f.known, .int .i64 f.til] 28)) hb1)
              have HBD1 := Lib.hid ((HBD.out.alloc (.cells #[.int .i64 f.par, .int .i64 f.no, .int .i64 f.kind, .int .i64 f.lock, .int .i64 f.person, .int .i64 f.lo, .int .i64 f.hi, .int .i64 f.known, .int .i64 f.til] 28)).ext hb1)
              have HBR1 := Lib.hid ((HBR.out.alloc (.cells #[.int .i64 f.par, .int .i64 f.no, .int .i64 f.kind, .int .i64 f.lock, .int .i64 f.person, .int .i64 f.lo, .int .i64 f.hi, .int .i64 f.known, .int .i64 f.til] 28)).ext hb1)
              have HBF1 := Lib.hid ((BoxA.new wr 28 #[.int .i64 f.par, .int .i64 f.no, .int .i64 f.kind, .int .i64 f.lock, .int .i64 f.person, .int .i64 f.lo, .int .i64 f.hi, .int .i64 f.known, .int .i64 f.til]).ext hb1)
              clear hb1 x0 x1 x2 x3 x4 x5 x6 x7 x8 p0 p1 p2 p3 p4 p5 p6 p7 p8
              obtain ⟨x0, x1, x2, x3, x4, x5, x6, x7, x8⟩ := boxa_nine HBD1.out
              obtain ⟨p0, p1, p2, p3, p4, p5, p6, p7, p8⟩ := boxa_nine HBF1.out
              go_wp2_with fail
              refine (r_sameThread_v d f true _ HSM.out).mono ?_
              rintro e w2 ⟨rfl, hb2⟩
              have HBN2 := Lib.hid (Below.then_ HBN.out hb2)
              have HBD2 := Lib.hid (HBD1.out.ext hb2)
              have HBR2 := Lib.hid (HBR1.out.ext hb2)
              have HBF2 := Lib.hid (HBF1.out.ext hb2)
              clear hb2 x0 x1 x2 x3 x4 x5 x6 x7 x8 p0 p1 p2 p3 p4 p5 p6 p7 p8
              obtain ⟨p0, p1, p2, p3, p4, p5, p6, p7, p8⟩ := boxa_nine HBF2.out
              have y1 := HBR2.out.cell 1
              have yf := boxa_frozen HBR2.out 1
              go_wp2_with fail
              go_roundw
              case rel =>
                refine ⟨j + 1, by omega, by go_num, HBN2.out.setCell (by simp) _, boxa_other HBD2.out (by simp) _, ?_⟩
                have hst : rStep d k r0 (f, j) = (r0.1, min r0.2 f.hi) := by simp [rStep, HSB.out, hjk, Nat.lt_asymm hjk]
                rw [HST.out, hst]
                exact boxa_set HBR2.out 1 _
              case measure => simp [intOf]; omega
        · obtain rfl : j = n := by omega
          have hr1 : rngI ds.zipIdx d k = r0 := by rw [← HR0.out, List.take_of_length_le (by rw [List.length_zipIdx, HL.out]; exact Nat.le_refl _)]
          have HT : Hid ((dayL ds).take (k + 1) = (dayL ds).take k ++ [r0]) := by show _ = _; rw [take_snoc_some (dayL_at HK.out), hr1]
          have y0 := HBR.out.cell 0
          have y1 := HBR.out.cell 1
          have hown2 := own_ext HW.out HB2.out
          clear hr1
          go_wp2_with (at_builtin; refine wpList_append_own _ rfl (.tmp 56) (.tmp 58) 129 rfl w.heap.size 26 i0 _ 2 16 Tryz.underlying129 hi hz0 hz1 hz2 rfl (by decide) _ _ _ rfl (hown2.alloc _) ⟨wr.heap.size, 0, none⟩ 1 1 [.int .i64 r0.1, .int .i64 r0.2] rfl rfl ?c1 ?c2 ?c3 ?c4 ?c5 ?_; rotate_left 5; intro v' w1 hown1 hgrow1 _)
          case c1 => exact World.news_of_block (cs := #[.int .i64 r0.1, .int .i64 r0.2]) (t := 26) (fr := (0, 0)) (heap_alloc_new wr _)
          case c2 => simp [Value.oneCell']
          case c3 => unfold maxLen; omega
          case c4 => omega
          case c5 => simp; omega
          go_roundw
          case rel =>
            refine ⟨k + 1, by omega, by go_num, ?_, Below.appended (Below.then_ HB.out HB2.out) ((Below.refl _ _).alloc (Nat.le_refl _) _) hown2 hgrow1⟩
            rw [HT.out, itemCells_append]
            exact hown1
          case measure => simp [intOf]; omega
    · obtain rfl : k = n := by omega
      have HTK : Hid ((dayL ds).take k = dayL ds) := List.take_of_length_le (by rw [dayL_len, HL.out]; exact Nat.le_refl _)
      have HLD : Hid ((dayL ds).length = k) := (dayL_len ds).trans HL.out
      go_wp2_with fail
      go_ret
      have hr := Rd.of_own HW.out
      rw [HTK.out] at hr
      exact ⟨A0, c0, by rw [HLD.out]; rfl, HB.out, by rw [HLD.out]; exact hr, by rw [HLD.out]; exact hcc.1⟩

end Go.Proofs.YtaomfjgleddpdaaGreat

/- When: the days of a thread are those of the reference. -/
namespace Go.Proofs.YtaomfjgleddpdaaGreat
open Go.RowKit
attribute [local go_sem] Oper.semAt_some

theorem filt_take {p q : Int} {P : Deed → Bool} {c : List Deed} : findN p q c < c.length → (∀ d, c[findN p q c]? = some d → P d = true) → ∀ o, (o ∈ (c.filter P).take (findN p q (c.filter P) + 1) ↔ ∃ k, k ≤ findN p q c ∧ c[k]? = some o ∧ P o = true) := by
  induction c with
  | nil => intro h; simp [findN] at h
  | cons a l ih =>
    intro h hd o
    by_cases hm : a.par = p ∧ a.no = q
    · have hpa : P a = true := hd a (by rw [findN, if_pos hm]; rfl)
      rw [List.filter_cons_of_pos hpa, findN, if_pos hm, findN, if_pos hm]
      simp only [Nat.zero_add, List.take_succ_cons, List.take_zero, List.mem_singleton]
      constructor
      · rintro rfl
        exact ⟨0, Nat.le_refl _, rfl, hpa⟩
      · rintro ⟨k, hk, h1, _⟩
        obtain rfl : k = 0 := by omega
        simpa using h1.symm
    · have hf : findN p q (a :: l) = findN p q l + 1 := by rw [findN, if_neg hm]
      rw [hf] at h hd ⊢
      have h2 := ih (by simpa using h) (fun d hd' => hd d (by simpa using hd')) o
      cases hpa : P a with
      | true =>
        rw [List.filter_cons_of_pos hpa, show findN p q (a :: l.filter P) = findN p q (l.filter P) + 1 by rw [findN, if_neg hm]]
        rw [List.take_succ_cons, List.mem_cons, h2]
        constructor
        · rintro (rfl | ⟨k, hk, h3, h4⟩)
          · exact ⟨0, by omega, rfl, hpa⟩
          · exact ⟨k + 1, by omega, by simpa using h3, h4⟩
        · rintro ⟨k, hk, h3, h4⟩
          cases k with
          | zero => exact .inl (by simpa using h3.symm)
          | succ k => exact .inr ⟨k, by omega, by simpa using h3, h4⟩
      | false =>
        rw [List.filter_cons_of_neg (by simp [hpa]), h2]
        constructor
        · rintro ⟨k, hk, h3, h4⟩
          exact ⟨k + 1, by omega, by simpa using h3, h4⟩
        · rintro ⟨k, hk, h3, h4⟩
          cases k with
          | zero =>
            obtain rfl : a = o := by simpa using h3
            rw [hpa] at h4
            cases h4
          | succ k => exact ⟨k, by omega, by simpa using h3, h4⟩
theorem filt_drop {p q : Int} {P : Deed → Bool} {c : List Deed} : findN p q c < c.length → (∀ d, c[findN p q c]? = some d → P d = true) → ∀ o, (o ∈ (c.filter P).drop (findN p q (c.filter P)) ↔ ∃ k, findN p q c ≤ k ∧ c[k]? = some o ∧ P o = true) := by
  induction c with
  | nil => intro h; simp [findN] at h
  | cons a l ih =>
    intro h hd o
    by_cases hm : a.par = p ∧ a.no = q
    · have hpa : P a = true := hd a (by rw [findN, if_pos hm]; rfl)
      have h0 : findN p q ((a :: l).filter P) = 0 := by rw [List.filter_cons_of_pos hpa, findN, if_pos hm]
      rw [h0, findN, if_pos hm, List.drop_zero, List.mem_filter, List.mem_iff_getElem?]
      constructor
      · rintro ⟨⟨k, h1⟩, h2⟩
        exact ⟨k, Nat.zero_le _, h1, h2⟩
      · rintro ⟨k, _, h1, h2⟩
        exact ⟨⟨k, h1⟩, h2⟩
    · have hf : findN p q (a :: l) = findN p q l + 1 := by rw [findN, if_neg hm]
      rw [hf] at h hd ⊢
      have h2 := ih (by simpa using h) (fun d hd' => hd d (by simpa using hd')) o
      have h5 : (∃ k, findN p q l ≤ k ∧ l[k]? = some o ∧ P o = true) ↔ ∃ k, findN p q l + 1 ≤ k ∧ (a :: l)[k]? = some o ∧ P o = true := by
        constructor
        · rintro ⟨k, hk, h3, h4⟩
          exact ⟨k + 1, by omega, by simpa using h3, h4⟩
        · rintro ⟨k, hk, h3, h4⟩
          obtain ⟨j, rfl⟩ : ∃ j, k = j + 1 := ⟨k - 1, by omega⟩
          exact ⟨j, by omega, by simpa using h3, h4⟩
      rw [← h5, ← h2]
      cases hpa : P a with
      | true => rw [List.filter_cons_of_pos hpa, show findN p q (a :: l.filter P) = findN p q (l.filter P) + 1 by rw [findN, if_neg hm], List.drop_succ_cons]
      | false => rw [List.filter_cons_of_neg (by simp [hpa])]

theorem ea_spec (l : List Deed) : (∀ o ∈ l, o.lo ≤ eaI l) ∧ (eaI l = 0 ∨ ∃ o ∈ l, eaI l = o.lo) ∧ 0 ≤ eaI l := by
  unfold eaI
  suffices h : ∀ m : Int, (∀ o ∈ l, o.lo ≤ l.foldl (fun m d => if m < d.lo then d.lo else m) m) ∧ (l.foldl (fun m d => if m < d.lo then d.lo else m) m = m ∨ ∃ o ∈ l, l.foldl (fun m d => if m < d.lo then d.lo else m) m = o.lo) ∧ m ≤ l.foldl (fun m d => if m < d.lo then d.lo else m) m from h 0
  induction l with
  | nil => intro m; simp
  | cons a l ih =>
    intro m
    simp only [List.foldl_cons]
    by_cases hlt : m < a.lo
    · obtain ⟨h1, h2, h3⟩ := ih a.lo
      simp only [hlt, if_true]
      refine ⟨fun o ho => ?_, ?_, by omega⟩
      · rcases List.mem_cons.1 ho with rfl | ho
        · exact h3
        · exact h1 o ho
      · rcases h2 with h2 | ⟨o, ho, h2⟩
        · exact .inr ⟨a, by simp, h2⟩
        · exact .inr ⟨o, by simp [ho], h2⟩
    · obtain ⟨h1, h2, h3⟩ := ih m
      simp only [hlt, if_false]
      refine ⟨fun o ho => ?_, ?_, h3⟩
      · rcases List.mem_cons.1 ho with rfl | ho
        · omega
        · exact h1 o ho
      · rcases h2 with h2 | ⟨o, ho, h2⟩
        · exact .inl h2
        · exact .inr ⟨o, by simp [ho], h2⟩
theorem la_spec (l : List Deed) : (∀ o ∈ l, laI l ≤ o.hi) ∧ (laI l = 100000 ∨ ∃ o ∈ l, laI l = o.hi) ∧ laI l ≤ 100000 := by
  unfold laI
  suffices h : ∀ m : Int, (∀ o ∈ l, l.foldl (fun m d => if d.hi < m then d.hi else m) m ≤ o.hi) ∧ (l.foldl (fun m d => if d.hi < m then d.hi else m) m = m ∨ ∃ o ∈ l, l.foldl (fun m d => if d.hi < m then d.hi else m) m = o.hi) ∧ l.foldl (fun m d => if d.hi < m then d.hi else m) m ≤ m from h 100000
  induction l with
  | nil => intro m; simp
  | cons a l ih =>
    intro m
    simp only [List.foldl_cons]
    by_cases hlt : a.hi < m
    · obtain ⟨h1, h2, h3⟩ := ih a.hi
      simp only [hlt, if_true]
      refine ⟨fun o ho => ?_, ?_, by omega⟩
      · rcases List.mem_cons.1 ho with rfl | ho
        · exact h3
        · exact h1 o ho
      · rcases h2 with h2 | ⟨o, ho, h2⟩
        · exact .inr ⟨a, by simp, h2⟩
        · exact .inr ⟨o, by simp [ho], h2⟩
    · obtain ⟨h1, h2, h3⟩ := ih m
      simp only [hlt, if_false]
      refine ⟨fun o ho => ?_, ?_, h3⟩
      · rcases List.mem_cons.1 ho with rfl | ho
        · omega
        · exact h1 o ho
      · rcases h2 with h2 | ⟨o, ho, h2⟩
        · exact .inl h2
        · exact .inr ⟨o, by simp [ho], h2⟩
theorem fmax {α : Type} (C : α → Prop) [DecidablePred C] (f : α → Int) (l : List α) : ∀ m : Int, m ≤ l.foldl (fun m p => if C p then max m (f p) else m) m ∧ (∀ p ∈ l, C p → f p ≤ l.foldl (fun m p => if C p then max m (f p) else m) m) ∧ (l.foldl (fun m p => if C p then max m (f p) else m) m = m ∨ ∃ p ∈ l, C p ∧ l.foldl (fun m p => if C p then max m (f p) else m) m = f p) := by
  induction l with
  | nil => intro m; simp
  | cons a l ih =>
    intro m
    obtain ⟨h1, h2, h3⟩ := ih (if C a then max m (f a) else m)
    simp only [List.foldl_cons]
    by_cases hc : C a
    · simp only [hc, if_true] at h1 h2 h3 ⊢
      refine ⟨by omega, fun p hp hcp => ?_, ?_⟩
      · rcases List.mem_cons.1 hp with rfl | hp
        · omega
        · exact h2 p hp hcp
      · rcases h3 with h3 | ⟨p, hp, hcp, h3⟩
        · by_cases hm : m ≤ f a
          · exact .inr ⟨a, by simp, hc, by rw [h3]; omega⟩
          · exact .inl (by rw [h3]; omega)
        · exact .inr ⟨p, by simp [hp], hcp, h3⟩
    · simp only [hc, if_false] at h1 h2 h3 ⊢
      refine ⟨h1, fun p hp hcp => ?_, ?_⟩
      · rcases List.mem_cons.1 hp with rfl | hp
        · exact absurd hcp hc
        · exact h2 p hp hcp
      · rcases h3 with h3 | ⟨p, hp, r⟩
        · exact .inl h3
        · exact .inr ⟨p, by simp [hp], r⟩
theorem fmin {α : Type} (C : α → Prop) [DecidablePred C] (f : α → Int) (l : List α) : ∀ m : Int, l.foldl (fun m p => if C p then min m (f p) else m) m ≤ m ∧ (∀ p ∈ l, C p → l.foldl (fun m p => if C p then min m (f p) else m) m ≤ f p) ∧ (l.foldl (fun m p => if C p then min m (f p) else m) m = m ∨ ∃ p ∈ l, C p ∧ l.foldl (fun m p => if C p then min m (f p) else m) m = f p) := by
  induction l with
  | nil => intro m; simp
  | cons a l ih =>
    intro m
    obtain ⟨h1, h2, h3⟩ := ih (if C a then min m (f a) else m)
    simp only [List.foldl_cons]
    by_cases hc : C a
    · simp only [hc, if_true] at h1 h2 h3 ⊢
      refine ⟨by omega, fun p hp hcp => ?_, ?_⟩
      · rcases List.mem_cons.1 hp with rfl | hp
        · omega
        · exact h2 p hp hcp
      · rcases h3 with h3 | ⟨p, hp, hcp, h3⟩
        · by_cases hm : f a ≤ m
          · exact .inr ⟨a, by simp, hc, by rw [h3]; omega⟩
          · exact .inl (by rw [h3]; omega)
        · exact .inr ⟨p, by simp [hp], hcp, h3⟩
    · simp only [hc, if_false] at h1 h2 h3 ⊢
      refine ⟨h1, fun p hp hcp => ?_, ?_⟩
      · rcases List.mem_cons.1 hp with rfl | hp
        · exact absurd hcp hc
        · exact h2 p hp hcp
      · rcases h3 with h3 | ⟨p, hp, r⟩
        · exact .inl h3
        · exact .inr ⟨p, by simp [hp], r⟩
theorem rng_fst (d : Deed) (i : Nat) (l : List (Deed × Nat)) : ∀ r : Int × Int, (l.foldl (rStep d i) r).1 = l.foldl (fun m p => if sameB d p.1 = true ∧ p.2 < i then max m p.1.lo else m) r.1 := by
  induction l with
  | nil => intro r; rfl
  | cons a l ih => intro r; rw [List.foldl_cons, ih, List.foldl_cons]; rfl
theorem rng_snd (d : Deed) (i : Nat) (l : List (Deed × Nat)) : ∀ r : Int × Int, (l.foldl (rStep d i) r).2 = l.foldl (fun m p => if sameB d p.1 = true ∧ i < p.2 then min m p.1.hi else m) r.2 := by
  induction l with
  | nil => intro r; rfl
  | cons a l ih => intro r; rw [List.foldl_cons, ih, List.foldl_cons]; rfl
theorem zi_mem {c : List Deed} {p : Deed × Nat} : p ∈ c.zipIdx ↔ c[p.2]? = some p.1 := List.mem_zipIdx_iff_getElem?
theorem okB_rng {d : Deed} (h : d.okB = true) : 0 ≤ d.lo ∧ d.lo ≤ d.hi ∧ d.hi ≤ 100000 := by
  rw [Deed.okB_eq] at h
  simp only [Bool.and_eq_true, daysB, rangeB, decide_eq_true_eq] at h
  exact h.2.2.1
theorem thr_filter (c : List Deed) (nm : Nm) : thr c nm = c.filter fun x => decide (nmD x = nm) := by
  unfold thr sub
  have h : ∀ (c : List Deed) (n : Nat), ((c.zipIdx n).filter fun x => decide (nmD x.1 = nm)).map (·.1) = c.filter fun x => decide (nmD x = nm) := by
    intro c
    induction c with
    | nil => intro n; rfl
    | cons a l ih =>
      intro n
      rw [List.zipIdx_cons]
      by_cases ha : nmD a = nm
      · rw [List.filter_cons_of_pos (by simpa using ha), List.filter_cons_of_pos (by simpa using ha), List.map_cons, ih]
      · rw [List.filter_cons_of_neg (by simpa using ha), List.filter_cons_of_neg (by simpa using ha), ih]
  exact h c 0
/-- The days of the deed with an item: by its thread alone, and by all that count. -/
theorem when_eq {c : List Deed} {p q : Int} {i : Nat} {d : Deed} (hok : ∀ x ∈ c, x.okB = true) (hf : findN p q c = i) (hi : c[i]? = some d) : whenR c p q = rngI c.zipIdx d i := by
  subst hf
  have hlt : findN p q c < c.length := (List.getElem?_eq_some_iff.1 hi).1
  have hP : ∀ x, c[findN p q c]? = some x → decide (nmD x = nmD d) = true := fun x hx => by rw [hi] at hx; cases hx; simp
  unfold whenR
  rw [hi]
  simp only
  rw [thr_filter]
  have ht := filt_take hlt hP
  have hd := filt_drop hlt hP
  generalize (c.filter fun x => decide (nmD x = nmD d)).take (findN p q (c.filter fun x => decide (nmD x = nmD d)) + 1) = T at ht
  generalize (c.filter fun x => decide (nmD x = nmD d)).drop (findN p q (c.filter fun x => decide (nmD x = nmD d))) = D at hd
  generalize findN p q c = i at *
  have hdT : d ∈ T := (ht d).2 ⟨i, Nat.le_refl _, hi, by simp⟩
  have hdD : d ∈ D := (hd d).2 ⟨i, Nat.le_refl _, hi, by simp⟩
  obtain ⟨e1, e2, e3⟩ := ea_spec T
  obtain ⟨l1, l2, l3⟩ := la_spec D
  obtain ⟨m1, m2, m3⟩ := fmax (fun p : Deed × Nat => sameB d p.1 = true ∧ p.2 < i) (fun p => p.1.lo) c.zipIdx d.lo
  obtain ⟨n1, n2, n3⟩ := fmin (fun p : Deed × Nat => sameB d p.1 = true ∧ i < p.2) (fun p => p.1.hi) c.zipIdx d.hi
  have hf1 : (rngI c.zipIdx d i).1 = _ := rng_fst d i c.zipIdx (d.lo, d.hi)
  have hf2 : (rngI c.zipIdx d i).2 = _ := rng_snd d i c.zipIdx (d.lo, d.hi)
  simp only at m1 m2 m3 n1 n2 n3 hf1 hf2
  rw [← hf1] at m1 m2 m3
  rw [← hf2] at n1 n2 n3
  have hod := okB_rng (hok d (List.mem_of_getElem? hi))
  refine Prod.ext ?_ ?_
  · show eaI T = _
    apply Int.le_antisymm
    · rcases e2 with e2 | ⟨o, ho, e2⟩
      · omega
      · obtain ⟨k, hk, h1, h2⟩ := (ht o).1 ho
        rw [e2]
        rcases Nat.lt_or_ge k i with hki | hki
        · exact m2 (o, k) (zi_mem.2 h1) ⟨sameB_nm.2 (by simpa using Eq.symm (by simpa using h2)), hki⟩
        · obtain rfl : k = i := by omega
          rw [hi] at h1
          cases h1
          exact m1
    · rcases m3 with m3 | ⟨x, hx, ⟨h1, h2⟩, m3⟩
      · rw [m3]; exact e1 d hdT
      · rw [m3]
        exact e1 x.1 ((ht x.1).2 ⟨x.2, by omega, zi_mem.1 hx, by simpa using (sameB_nm.1 h1).symm⟩)
  · show laI D = _
    apply Int.le_antisymm
    · rcases n3 with n3 | ⟨x, hx, ⟨h1, h2⟩, n3⟩
      · rw [n3]; exact l1 d hdD
      · rw [n3]
        exact l1 x.1 ((hd x.1).2 ⟨x.2, by omega, zi_mem.1 hx, by simpa using (sameB_nm.1 h1).symm⟩)
    · rcases l2 with l2 | ⟨o, ho, l2⟩
      · omega
      · obtain ⟨k, hk, h1, h2⟩ := (hd o).1 ho
        rw [l2]
        rcases Nat.lt_or_ge i k with hki | hki
        · exact n2 (o, k) (zi_mem.2 h1) ⟨sameB_nm.2 (by simpa using Eq.symm (by simpa using h2)), hki⟩
        · obtain rfl : k = i := by omega
          rw [hi] at h1
          cases h1
          exact n1

end Go.Proofs.YtaomfjgleddpdaaGreat

/- The reference's When. -/
namespace Go.Proofs.YtaomfjgleddpdaaGreat
open Go.RowKit
attribute [local go_sem] Oper.semAt_some

set_option maxRecDepth 100000 in
set_option maxHeartbeats 4000000 in
theorem r_When (ds : List Deed) (p q kn err ev : Int) (v : Value) (A : Option Addr) (n c : Nat) (w : World) (hn : n ≤ 9223372036854775807) (hd : Ds w w.heap.size A n ds) (he : askE ds [kn] = err) (hv : whenV ds kn p q = v) (hev : whenE ds kn p q = ev) :
    Calls Tryz.prog 32 #[.slice A n c, .agg #[.int .i64 p, .int .i64 q], .int .i64 kn] w fun e w' => e = .returned (.tuple #[v, .int .i64 ev]) ∧ Below w.heap.size w w' := by
  have HD := Lib.hid hd
  have HL := Lib.hid hd.len
  have HE := Lib.hid he
  have HV := Lib.hid hv
  have HEV := Lib.hid hev
  have HEE : Hid (orL [errI (checkB ds) 11, errI (daysOk [kn]) 6] = err) := by show _ = _; rw [askE_or]; exact he
  clear hd he hv hev
  go_enter Tryz.func32, Tryz.ntmps32
  go_wp2_with fail
  refine (r_asked_v ds [kn] err _ _ _ _ _ _ _ hn (by decide) (HD.out.now (by (repeat' (first | with_reducible exact Below.refl _ _ | with_reducible assumption | with_reducible refine Below.alloc ?_ ?_ _ | with_reducible refine Below.setCell ?_ ?_ _ | with_reducible refine Below.drew ?_ | (simp; done) | (simp; omega) | omega)))) (Rd.new _ #[.int .i64 kn] 3 1 1 _ (by simp) rfl) HE.out).mono ?_
  rintro e w1 ⟨rfl, hb1⟩
  have HBI := Lib.hid ((((BoxA.new w 24 #[.int .i64 p, .int .i64 q]).alloc (.cells #[.int .i64 0, .int .i64 0] 26)).alloc (.cells #[.int .i64 kn] 3)).ext hb1)
  have HBR : Hid (BoxA w1 (w.heap.size + 1) 26 #[.int .i64 0, .int .i64 0]) := by
    have h := ((BoxA.new (w.alloc (.cells #[.int .i64 p, .int .i64 q] 24)) 26 #[.int .i64 0, .int .i64 0]).alloc (.cells #[.int .i64 kn] 3)).ext hb1
    simp only [World.size_alloc] at h
    exact h
  have HB1 : Below w.heap.size w w1 := Below.then_ (by (repeat' (first | with_reducible exact Below.refl _ _ | with_reducible assumption | with_reducible refine Below.alloc ?_ ?_ _ | with_reducible refine Below.setCell ?_ ?_ _ | with_reducible refine Below.drew ?_ | (simp; done) | (simp; omega) | omega))) hb1
  clear hb1
  by_cases h0 : err = 0
  · subst h0
    have H60 := Lib.hid (check_60 (ask_ok HE.out).1)
    have h60 : n ≤ 60 := by have := H60.out; have := HL.out; omega
    have HOK := Lib.hid (cnt_ok (ask_ok HE.out).1 kn)
    have HC60 : Hid ((cntDs kn ds).length ≤ 60) := by show _ ≤ _; have := cntDs_len kn ds; have := H60.out; omega
    go_wp2_with fail
    refine (r_counting ds kn _ _ _ _ (by omega) (HD.out.now HB1)).mono ?_
    rintro e w2 ⟨A2, c2, rfl, hb2, hd2, _, _⟩
    have HB2 : Below w.heap.size w w2 := Below.then_ HB1 hb2
    have HD2 := Lib.hid hd2
    have HBI2 := Lib.hid (HBI.out.ext hb2)
    have HBR2 := Lib.hid (HBR.out.ext hb2)
    have i0 := HBI2.out.cell 0
    have i1 := HBI2.out.cell 1
    clear hb2 hd2
    go_wp2_with fail
    obtain ⟨fi, hfi⟩ : ∃ i, findI p q (cntDs kn ds) = i := ⟨_, rfl⟩
    refine (r_index_v (cntDs kn ds) p q fi _ _ _ _ (by have := HC60.out; omega) HD2.out hfi).mono ?_
    rintro e w3 ⟨rfl, hb3⟩
    have HB3 : Below w.heap.size w w3 := Below.then_ HB2 hb3
    have HD3 := Lib.hid (HD2.out.now hb3)
    have HBR3 := Lib.hid (HBR2.out.ext hb3)
    clear hb3 i0 i1
    by_cases hf : findN p q (cntDs kn ds) < (cntDs kn ds).length
    · obtain ⟨i, hi⟩ : ∃ i, findN p q (cntDs kn ds) = i := ⟨_, rfl⟩
      have HF := Lib.hid hf
      have HI := Lib.hid hi
      have hil : i < (cntDs kn ds).length := by omega
      rw [findI_some hi hil] at hfi
      subst hfi
      obtain ⟨d, hdi⟩ : ∃ d, (cntDs kn ds)[i]? = some d := ⟨_, List.getElem?_eq_getElem hil⟩
      have HDI := Lib.hid hdi
      clear hf hi hdi
      have hi0 : decide ((i : Int) < 0) = false := by simp
      go_wp2_with fail
      refine (r_clash (cntDs kn ds) _ _ _ _ (by have := HC60.out; omega) HOK.out HD3.out).mono ?_
      rintro e w4 ⟨ci, ck, rfl, _, hb4⟩
      have HB4 : Below w.heap.size w w4 := Below.then_ HB3 hb4
      have HD4 : Hid (Ds (w4.alloc (.cells #[.int .i64 ci, .int .i64 ck] 41)) (w4.alloc (.cells #[.int .i64 ci, .int .i64 ck] 41)).heap.size A2 (cntDs kn ds).length (cntDs kn ds)) := ((HD3.out.now hb4).alloc (Nat.le_refl _) (.cells #[.int .i64 ci, .int .i64 ck] 41)).more (by simp)
      have HBR4a := Lib.hid (HBR3.out.ext hb4)
      have HBR4 := Lib.hid ((HBR3.out.ext hb4).alloc (.cells #[.int .i64 ci, .int .i64 ck] 41))
      have hlt4 : w.heap.size + 1 < w4.heap.size := HBR4a.out.lt
      have hs4 := HB4.size
      have HB5 := Lib.hid (HB4.alloc hs4 (.cells #[.int .i64 ci, .int .i64 ck] 41))
      clear hb4
      cases hcl : clF (cntDs kn ds) with
      | true =>
        have HEV2 : Hid (ev = 13) := by show _ = _; rw [← HEV.out, whenE, HEE.out, if_pos rfl, if_pos HF.out, if_pos hcl]
        have HV2 : Hid (v = .agg #[.int .i64 0, .int .i64 0]) := by show _ = _; rw [← HV.out, whenV, HEV.out, HEV2.out]; rfl
        have y0 := HBR4a.out.cell 0
        have y1 := HBR4a.out.cell 1
        have yf := boxa_frozen HBR4a.out 0
        have yg := boxa_frozen HBR4a.out 1
        clear hcl
        go_wp2_with fail
        refine bodyPost_ret (v := .tuple #[.agg #[.int .i64 0, .int .i64 0], .int .i64 13]) (by simp [results, Tryz.results32, go_sem, World.cell?_alloc_lt, hlt4, y0, y1, yf, yg]) rfl ⟨by rw [HEV2.out, HV2.out], by (repeat' (first | with_reducible exact Below.refl _ _ | with_reducible assumption | with_reducible refine Below.alloc ?_ ?_ _ | with_reducible refine Below.setCell ?_ ?_ _ | with_reducible refine Below.drew ?_ | (simp; done) | (simp; omega) | omega))⟩
      | false =>
        have HEV2 : Hid (ev = 0) := by show _ = _; rw [← HEV.out, whenE, HEE.out, if_pos rfl, if_pos HF.out, hcl]; rfl
        have HWE := Lib.hid (when_eq HOK.out HI.out HDI.out)
        have HV2 : Hid (v = .agg #[.int .i64 (rngI (cntDs kn ds).zipIdx d i).1, .int .i64 (rngI (cntDs kn ds).zipIdx d i).2]) := by show _ = _; rw [← HV.out, whenV, HEV.out, HEV2.out, if_pos rfl, HWE.out]
        clear hcl
        go_wp2_with fail
        refine (r_Days (cntDs kn ds) _ _ _ _ (by have := HC60.out; omega) HOK.out HD4.out).mono ?_
        rintro e w5 ⟨A5, c5, rfl, hb5, hi5, hc5⟩
        have hlen : (dayL (cntDs kn ds)).length = (cntDs kn ds).length := dayL_len _
        obtain ⟨b5, o5, e5, hb5b, hc⟩ := hi5.2 (by omega)
        subst e5
        obtain ⟨r, hr⟩ : ∃ r, rngI (cntDs kn ds).zipIdx d i = r := ⟨_, rfl⟩
        have HR := Lib.hid (dayL_at HDI.out)
        rw [hr] at HR HV2
        clear hr
        have hit : ∀ (l : List (Int × Int)) (k : Nat) (x : Int × Int), l[k]? = some x → (itemCells l)[k * 2]? = some (.int .i64 x.1) ∧ (itemCells l)[k * 2 + 1]? = some (.int .i64 x.2) := by
          intro l
          induction l with
          | nil => intro k x h; simp at h
          | cons a l ih =>
            intro k x h
            cases k with
            | zero => obtain rfl : a = x := by simpa using h
                      exact ⟨rfl, rfl⟩
            | succ k =>
              have h2 := ih k x (by simpa using h)
              rw [show (k + 1) * 2 = k * 2 + 1 + 1 by omega]
              exact h2
        obtain ⟨g0, g1⟩ := hit _ _ _ HR.out
        have x0 : w5.cell? ⟨b5, o5 + i * 2, none⟩ = some (.int .i64 r.1) := hc _ _ g0
        have x1 : w5.cell? ⟨b5, o5 + i * 2 + 1, none⟩ = some (.int .i64 r.2) := hc _ _ g1
        have HBR5 := Lib.hid (HBR4.out.ext hb5)
        have y0 := HBR5.out.cell 0
        have y1 := HBR5.out.cell 1
        have yf := boxa_frozen HBR5.out 0
        have yg := boxa_frozen HBR5.out 1
        have HB6 := Lib.hid (Below.then_ HB5.out hb5)
        have g3 : (i : Int) < ((dayL (cntDs kn ds)).length : Int) := by omega
        have g4 : ¬ ((i : Int) < 0) := by omega
        clear hb5 hi5 hc5 hc hit g0 g1
        go_wp2_with fail
        refine bodyPost_ret (v := .tuple #[.agg #[.int .i64 r.1, .int .i64 r.2], .int .i64 0]) (by simp [results, Tryz.results32, go_sem, y0, y1, yf, yg]) rfl ⟨by rw [HEV2.out, HV2.out], ((HB6.out).setCell (by simp) _).setCell (by simp) _⟩
    · rw [findI_none hf] at hfi
      subst hfi
      have HEV2 : Hid (ev = 3) := by show _ = _; rw [← HEV.out, whenE, HEE.out, if_pos rfl, if_neg hf]
      have HV2 : Hid (v = .agg #[.int .i64 0, .int .i64 0]) := by show _ = _; rw [← HV.out, whenV, HEV.out, HEV2.out]; rfl
      have y0 := HBR3.out.cell 0
      have y1 := HBR3.out.cell 1
      have yf := boxa_frozen HBR3.out 0
      have yg := boxa_frozen HBR3.out 1
      clear hf
      go_wp2_with fail
      refine bodyPost_ret (v := .tuple #[.agg #[.int .i64 0, .int .i64 0], .int .i64 3]) (by simp [results, Tryz.results32, go_sem, y0, y1, yf, yg]) rfl ⟨by rw [HEV2.out, HV2.out], (HB3.setCell (by simp) _).setCell (by simp) _⟩
  · have h1 : (err != 0) = true := by simpa using h0
    have HEV2 : Hid (ev = err) := by show _ = _; rw [← HEV.out, whenE, HEE.out, if_neg h0]
    have HV2 : Hid (v = .agg #[.int .i64 0, .int .i64 0]) := by show _ = _; rw [← HV.out, whenV, HEV.out, HEV2.out, if_neg h0]
    have y0 := HBR.out.cell 0
    have y1 := HBR.out.cell 1
    have yf := boxa_frozen HBR.out 0
    have yg := boxa_frozen HBR.out 1
    clear h0
    go_wp2_with fail
    refine bodyPost_ret (v := .tuple #[.agg #[.int .i64 0, .int .i64 0], .int .i64 err]) (by simp [results, Tryz.results32, go_sem, y0, y1, yf, yg]) rfl ⟨by rw [HEV2.out, HV2.out], (HB1.setCell (by simp) _).setCell (by simp) _⟩

end Go.Proofs.YtaomfjgleddpdaaGreat
