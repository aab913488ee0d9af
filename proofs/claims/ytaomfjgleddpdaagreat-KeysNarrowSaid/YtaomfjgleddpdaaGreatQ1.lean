import Derived.Test.YtaomfjgleddpdaaGreatP8
import Derived.Test.YtaomfjgleddpdaaGreatM1
set_option linter.unusedVariables false
set_option linter.unusedSimpArgs false

/- KeysTrue: Lists, wrong. -/
namespace Go.Proofs.YtaomfjgleddpdaaGreat
open Go.RowKit Go.Maps
attribute [local go_sem] Oper.semAt_some

set_option maxHeartbeats 1000000 in
theorem r_Lists (xs : List Int) (v : Int) (r : Bool) (A : Option Addr) (n c : Nat) (w : World) (hn : n ≤ 1000000) (h : Is w w.heap.size A n xs) (hr : decide (v ∈ xs) = r) :
    Calls Tryz.prog 61 #[.slice A n c, .int .i64 v] w fun e w' => e = .returned (.bool r) ∧ w = w' := by
  have HI := Lib.hid h
  have HL := Lib.hid h.len
  have HR := Lib.hid hr
  clear h hr
  go_enter Tryz.func61, Tryz.ntmps61
  go_wp2
  go_loop [9] (fun i => ∃ k : Nat, k ≤ n ∧ i = .int .i64 k ∧ v ∉ xs.take k) (fun i => n - (intOf i).toNat)
  case atStart => exact ⟨0, by omega, rfl, by simp⟩
  case round =>
    obtain ⟨k, hk, rfl, ho⟩ := hrel
    have HO := Lib.hid ho
    clear ho
    by_cases hlt : k < n
    · obtain ⟨b, o, x, rfl, hb, hx, hc⟩ := HI.out.at_ hlt
      have HX := Lib.hid hx
      clear hx
      by_cases hw : x = v
      · have hv : v ∈ xs := by rw [← hw]; exact List.mem_of_getElem? HX.out
        have hr : r = true := by rw [← HR.out]; simpa using hv
        have h1 : (x == v) = true := by simpa using hw
        subst hr
        clear hw hv
        go_wp2
        go_ret
        exact ⟨rfl, rfl⟩
      · have h1 : (x == v) = false := by simpa using hw
        have H1 : Hid (v ∉ xs.take (k + 1)) := by
          show ¬ _
          rw [take_snoc_some HX.out, List.mem_append]
          rintro (h | h)
          · exact HO.out h
          · exact hw (List.mem_singleton.1 h).symm
        clear hw
        go_wp2
        go_round
        case rel => exact ⟨k + 1, by omega, by go_num, H1.out⟩
        case measure => simp [intOf]; omega
    · have h1 : v ∉ xs := by
        have := HO.out
        rwa [List.take_of_length_le (by rw [HL.out]; omega)] at this
      have hr : r = false := by rw [← HR.out]; simpa using h1
      subst hr
      clear h1
      go_wp2
      go_ret
      exact ⟨rfl, rfl⟩
def wrongB (a : Int) (is : Bool) : Bool := if a = 1 then !is else if a = 0 then is else false
set_option maxHeartbeats 1000000 in
theorem r_wrong (a : Int) (is v : Bool) (w : World) (hv : wrongB a is = v) :
    Calls Tryz.prog 62 #[.int .i64 a, .bool is] w fun e w' => e = .returned (.bool v) ∧ w = w' := by
  subst hv
  by_cases h1 : a = 1
  · subst h1
    cases is
    · go_enter Tryz.func62, Tryz.ntmps62
      go_wp2
      go_ret
      exact ⟨rfl, rfl⟩
    · go_enter Tryz.func62, Tryz.ntmps62
      go_wp2
      go_ret
      exact ⟨rfl, rfl⟩
  · have g1 : (a == 1) = false := by simpa using h1
    by_cases h0 : a = 0
    · subst h0
      cases is
      · go_enter Tryz.func62, Tryz.ntmps62
        go_wp2
        go_ret
        exact ⟨rfl, rfl⟩
      · go_enter Tryz.func62, Tryz.ntmps62
        go_wp2
        go_ret
        exact ⟨rfl, rfl⟩
    · have g0 : (a == 0) = false := by simpa using h0
      have e : wrongB a is = false := by unfold wrongB; rw [if_neg h1, if_neg h0]
      rw [e]
      clear h1 h0 e
      go_enter Tryz.func62, Tryz.ntmps62
      go_wp2
      go_ret
      exact ⟨rfl, rfl⟩

end Go.Proofs.YtaomfjgleddpdaaGreat

/- KeysTrue: whether a person truly is in office: the reference's InOn. -/
namespace Go.Proofs.YtaomfjgleddpdaaGreat
open Go.RowKit
attribute [local go_sem] Oper.semAt_some

/-- The deeds of a thread that have happened by the true days. -/
def onL (T : TL) (days : List Int) (day : Int) : TL := T.filter fun x => decide ((days[x.2]?).getD 0 ≤ day)
theorem on_in {T : TL} {days : List Int} {day y : Int} {k i : Nat} {d : Deed} (h : T[k]? = some (d, i)) (hy : days[i]? = some y) (hd : y ≤ day) : onL (T.take (k + 1)) days day = onL (T.take k) days day ++ [(d, i)] := by
  unfold onL
  rw [take_snoc_some h, List.filter_append]
  simp [hy, hd]
theorem on_out {T : TL} {days : List Int} {day y : Int} {k i : Nat} {d : Deed} (h : T[k]? = some (d, i)) (hy : days[i]? = some y) (hd : ¬ y ≤ day) : onL (T.take (k + 1)) days day = onL (T.take k) days day := by
  unfold onL
  rw [take_snoc_some h, List.filter_append]
  simp [hy, hd]
def inJ (T : TL) (days : List Int) (day : Int) : Bool := (onL T days day).foldl (fun _ x => decide (x.1.kind = 1)) false
theorem inJ_in {T : TL} {days : List Int} {day y : Int} {k i : Nat} {d : Deed} (h : T[k]? = some (d, i)) (hy : days[i]? = some y) (hd : y ≤ day) : inJ (T.take (k + 1)) days day = decide (d.kind = 1) := by
  unfold inJ
  rw [on_in h hy hd, List.foldl_append]
  rfl
theorem inJ_out {T : TL} {days : List Int} {day y : Int} {k i : Nat} {d : Deed} (h : T[k]? = some (d, i)) (hy : days[i]? = some y) (hd : ¬ y ≤ day) : inJ (T.take (k + 1)) days day = inJ (T.take k) days day := by
  unfold inJ
  rw [on_out h hy hd]

set_option maxRecDepth 100000 in
set_option maxHeartbeats 4000000 in
theorem r_InOn (ds : List Deed) (days : List Int) (lock q day kn : Int) (v : Bool) (A B : Option Addr) (n c m cm : Nat) (w : World) (hn : n ≤ 1000) (hm : m ≤ 1000000) (hnm : n ≤ m) (hok : ∀ d ∈ ds, d.okB = true) (hd : Ds w w.heap.size A n ds) (hy : Is w w.heap.size B m days) (hv : inJ (sub ds (0, q)) days day = v) :
    Calls Tryz.prog 63 #[.slice A n c, .slice B m cm, .agg #[.int .i64 lock, .int .i64 q, .int .i64 day, .int .i64 kn]] w fun e w' => e = .returned (.bool v) ∧ Below w.heap.size w w' := by
  have HD := Lib.hid hd
  have HL := Lib.hid hd.len
  have HY := Lib.hid hy
  have HLY := Lib.hid hy.len
  have HO := Lib.hid hok
  have HV := Lib.hid hv
  clear hd hy hok hv
  have HXL : Hid ((ixL ds (0, q)).length ≤ n) := by show _ ≤ _; have h := ixL_len ds (0, q); rwa [HL.out] at h
  go_enter Tryz.func63, Tryz.ntmps63
  go_wp2_with fail
  refine (r_officeOf ds q _ _ _ _ (by omega) HO.out (HD.out.now (by (repeat' (first | with_reducible exact Below.refl _ _ | with_reducible assumption | with_reducible refine Below.alloc ?_ ?_ _ | with_reducible refine Below.setCell ?_ ?_ _ | with_reducible refine Below.drew ?_ | (simp; done) | (simp; omega) | omega))))).mono ?_
  rintro e w2 ⟨A2, c2, rfl, hb2, hi2, _⟩
  have HB2 := Lib.hid (show Below w.heap.size w w2 from Below.then_ (by (repeat' (first | with_reducible exact Below.refl _ _ | with_reducible assumption | with_reducible refine Below.alloc ?_ ?_ _ | with_reducible refine Below.setCell ?_ ?_ _ | with_reducible refine Below.drew ?_ | (simp; done) | (simp; omega) | omega))) hb2)
  have HBA := Lib.hid ((BoxA.new w 59 #[.int .i64 lock, .int .i64 q, .int .i64 day, .int .i64 kn]).ext hb2)
  have HX := Lib.hid hi2
  clear hb2 hi2
  obtain ⟨w3, rfl⟩ : ∃ w3 : World, w3 = w2 := ⟨_, rfl⟩
  go_wp2_with fail
  go_loopw [7, 15] (fun vy i wr => ∃ (j : Nat) (y : Bool), j ≤ (ixL ds (0, q)).length ∧ i = .int .i64 j ∧ vy = .bool y ∧ y = inJ ((sub ds (0, q)).take j) days day ∧ Below w3.heap.size w3 wr) (fun _ i _ => (ixL ds (0, q)).length - (intOf i).toNat)
  case atStart => exact ⟨0, false, by omega, rfl, rfl, rfl, Below.refl _ _⟩
  case round =>
    obtain ⟨j, y0, hj, rfl, rfl, hy, hB⟩ := hrel
    obtain ⟨wo, rfl⟩ : ∃ wo : World, wo = wr := ⟨_, rfl⟩
    have HY0 := Lib.hid hy
    have HBQ := Lib.hid hB
    clear hy hB
    by_cases hlt : j < (ixL ds (0, q)).length
    · have hsl := ixL_sub ds (0, q)
      obtain ⟨⟨d, i⟩, hp⟩ : ∃ p, (sub ds (0, q))[j]? = some p := ⟨_, List.getElem?_eq_getElem (by omega)⟩
      clear hsl
      obtain ⟨hci, hnm2⟩ := sub_mem.1 (List.mem_of_getElem? hp)
      have hxi := ixL_at hp
      have hin : i < n := by have := (List.getElem?_eq_some_iff.1 hci).1; have := HL.out; omega
      have HCI := Lib.hid hci
      have HXI := Lib.hid hxi
      have HP := Lib.hid hp
      clear hp hci hxi hnm2
      have HBD := Lib.hid (Below.then_ HB2.out HBQ.out)
      obtain ⟨bx, ox, x, eb, hbb, hx, hxc⟩ := (HX.out.now HBQ.out).at_ (k := j) (by omega)
      cases eb
      rw [HXI.out] at hx
      cases hx
      obtain ⟨by_, oy, y, ey, hby, hy, hyc⟩ := (HY.out.now HBD.out).at_ (k := i) (by omega)
      cases ey
      have HYI := Lib.hid hy
      clear hy
      have hBo := HBA.out.ext HBQ.out
      have x2 := hBo.cell 2
      have hl2 := hBo.lt
      clear hBo
      have g1 : (j : Int) < ((ixL ds (0, q)).length : Int) := by omega
      have g2 : ¬ ((j : Int) < 0) := by omega
      have g3 : (i : Int) < (m : Int) := by omega
      have g4 : ¬ ((i : Int) < 0) := by omega
      have hj60 : j < 1000 := by have := HXL.out; omega
      by_cases hle : y ≤ day
      · have hl1 : decide (y ≤ day) = true := by simpa using hle
        have HJ := Lib.hid (inJ_in HP.out HYI.out hle)
        clear hle
        go_wp2_with fail
        (refine wp_region_grow (by kernel_rfl) (by kernel_rfl) ?_; (repeat (go_big_quiet_step ((first | fail)))); refine wpQuiet_nil ?_; rintro w1 ⟨⟨_, hb1⟩, rfl⟩; (try dsimp only at hb1 ⊢); obtain ⟨hc1, hf1⟩ := bcell hb1)
        have HBN := Lib.hid (Below.then_ HBQ.out hb1)
        clear hb1 hc1 hf1 hby hyc hbb hxc x2 hl2
        obtain ⟨wf, rfl⟩ : ∃ wf : World, wf = w1 := ⟨_, rfl⟩
        have HBM := Lib.hid (Below.then_ HB2.out HBN.out)
        obtain ⟨bd, od, d', ed, hbd, hd', hat⟩ := (HD.out.now HBM.out).at_ hin
        cases ed
        rw [HCI.out] at hd'
        cases hd'
        obtain ⟨_, a1, _, _, _, _, _, _, _⟩ := hat
        have g5 : (i : Int) < (n : Int) := by omega
        go_wp2_with fail
        go_roundw
        case rel => exact ⟨j + 1, _, by omega, by go_num, rfl, HJ.out.symm, HBN.out⟩
        case measure => simp [intOf] <;> omega
      · have hl1 : decide (y ≤ day) = false := by simpa using hle
        have HJ := Lib.hid (inJ_out HP.out HYI.out hle)
        clear hle
        go_wp2_with fail
        (refine wp_region_grow (by kernel_rfl) (by kernel_rfl) ?_; (repeat (go_big_quiet_step ((first | fail)))); refine wpQuiet_nil ?_; rintro w1 ⟨⟨_, hb1⟩, rfl⟩; (try dsimp only at hb1 ⊢); obtain ⟨hc1, hf1⟩ := bcell hb1)
        have HBN := Lib.hid (Below.then_ HBQ.out hb1)
        clear hb1 hc1 hf1 hby hyc hbb hxc x2 hl2
        obtain ⟨wf, rfl⟩ : ∃ wf : World, wf = w1 := ⟨_, rfl⟩
        go_wp2_with fail
        go_roundw
        case rel => exact ⟨j + 1, y0, by omega, by go_num, rfl, by rw [HJ.out]; exact HY0.out, HBN.out⟩
        case measure => simp [intOf] <;> omega
    · have hjn : (ixL ds (0, q)).length ≤ j := by omega
      have hy : y0 = v := by
        rw [HY0.out, ← HV.out, List.take_of_length_le]
        have := ixL_sub ds (0, q)
        omega
      subst hy
      go_wp2_with fail
      go_ret
      exact ⟨rfl, Below.then_ HB2.out HBQ.out⟩

end Go.Proofs.YtaomfjgleddpdaaGreat

/- KeysTrue: who truly holds a lock: the reference's KeyOn. -/
namespace Go.Proofs.YtaomfjgleddpdaaGreat
open Go.RowKit
attribute [local go_sem] Oper.semAt_some

/-- A list of numbers of the call's own. -/
def RetO (xs : List Int) (w : World) (e : Ending) (w' : World) : Prop :=
  ∃ A c, e = .returned (.slice A xs.length c) ∧ Below w.heap.size w w' ∧ w'.ownsRow w.heap.size 3 1 (.slice A xs.length c) xs.length (xs.map fun x => .int .i64 x)

set_option maxRecDepth 100000 in
set_option maxHeartbeats 2000000 in
theorem r_threadOf_o (ds : List Deed) (q : Int) (A : Option Addr) (n c : Nat) (w : World) (hn : n ≤ 1000) (hq : 1 ≤ q) (hok : ∀ d ∈ ds, d.okB = true) (hd : Ds w w.heap.size A n ds) :
    Calls Tryz.prog 127 #[.slice A n c, .int .i64 q] w (RetO (ixL ds (q, 0)) w) := by
  obtain ⟨i0, hi, hz0, hz1, hz2⟩ := info_parts infoInt
  have HD := Lib.hid hd
  have HL := Lib.hid hd.len
  have HO := Lib.hid hok
  clear hd hok
  go_enter Tryz.func127, Tryz.ntmps127
  go_wp2_with fail
  go_loopw [5, 10] (fun v i wr => ∃ k : Nat, k ≤ n ∧ i = .int .i64 k ∧ wr.ownsRow w.heap.size 3 1 v (ixL (ds.take k) (q, 0)).length ((ixL (ds.take k) (q, 0)).map fun x => .int .i64 x) ∧ Below w.heap.size w wr) (fun _ i _ => n - (intOf i).toNat)
  case atStart => exact ⟨0, by omega, rfl, World.ownsRow_nil _ _ _ _, Below.refl _ _⟩
  case round =>
    obtain ⟨k, hk, rfl, hown, hB⟩ := hrel
    have hs0 : w.heap.size ≤ wr.heap.size := hB.size
    by_cases hlt : k < n
    · obtain ⟨b, o, d, rfl, hb, hdk, hat⟩ := (HD.out.ext hB (Nat.le_refl _)).at_ hlt
      have HK := Lib.hid hdk
      have HOD := Lib.hid (HO.out d (List.mem_of_getElem? hdk))
      clear hdk
      obtain ⟨a0, a1, a2, a3, a4, a5, a6, a7, a8⟩ := hat
      have hxl := ixL_len (ds.take k) (q, 0)
      rw [List.length_take, HL.out] at hxl
      have HBW := Lib.hid (fun o => hB.alloc hs0 o)
      have HOW := Lib.hid (fun o => hown.alloc o)
      by_cases hnm : nmD d = (q, 0)
      · have HE := Lib.hid (ixL_in HK.out hnm)
        obtain ⟨t1, t2⟩ := threadOf_is HOD.out hq hnm
        have T1 := Lib.hid t1
        have T2 : (d.lock == q) = true := by simpa using t2
        clear hnm t1 t2
        go_wp2_with (first | (go_at_call 148; refine (r_isOffice_v d.kind _ _ T1.out).mono ?_; rintro e w1 ⟨rfl, rfl⟩) | (at_builtin; refine wpList_append_own _ rfl (.tmp 25) (.tmp 27) 32 rfl w.heap.size 3 i0 _ 1 8 Tryz.underlying32 hi hz0 hz1 hz2 rfl (by decide) _ _ _ rfl ((hown.alloc _).alloc _) ⟨wr.heap.size + 1, 0, none⟩ 1 1 [.int .i64 (k : Int)] rfl rfl ?c1 ?c2 ?c3 ?c4 ?c5 ?_; rotate_left 5; intro v' w1 hown1 hgrow1 _))
        case c1 => have h := World.news_of_block (cs := #[.int .i64 (k : Int)]) (t := 3) (fr := (0, 0)) (heap_alloc_new (wr.alloc (.cells #[.int .i64 d.par, .int .i64 d.no, .int .i64 d.kind, .int .i64 d.lock, .int .i64 d.person, .int .i64 d.lo, .int .i64 d.hi, .int .i64 d.known, .int .i64 d.til] 28)) _); simpa using h
        case c2 => simp [Value.oneCell']
        case c3 => unfold maxLen; omega
        case c4 => omega
        case c5 => simp; omega
        go_roundw
        case rel =>
          refine ⟨k + 1, by omega, by go_num, ?_, Below.appended hB (((Below.refl _ _).alloc (Nat.le_refl _) _).alloc (by simp) _) hown hgrow1⟩
          rw [HE.out, List.map_append, List.length_append]
          exact hown1
        case measure => simp [intOf]; omega
      · have HE := Lib.hid (ixL_out HK.out hnm)
        rcases threadOf_not HOD.out hq hnm with t1 | ⟨t1, t2⟩
        · have T1 := Lib.hid t1
          clear hnm t1
          go_wp2_with (go_at_call 148; refine (r_isOffice_v d.kind _ _ T1.out).mono ?_; rintro e w1 ⟨rfl, rfl⟩)
          go_roundw
          case rel => exact ⟨k + 1, by omega, by go_num, by rw [HE.out]; exact HOW.out _, HBW.out _⟩
          case measure => simp [intOf]; omega
        · have T1 := Lib.hid t1
          have T2 : (d.lock == q) = false := by simpa using t2
          clear hnm t1 t2
          go_wp2_with (go_at_call 148; refine (r_isOffice_v d.kind _ _ T1.out).mono ?_; rintro e w1 ⟨rfl, rfl⟩)
          go_roundw
          case rel => exact ⟨k + 1, by omega, by go_num, by rw [HE.out]; exact HOW.out _, HBW.out _⟩
          case measure => simp [intOf]; omega
    · obtain rfl : k = n := by omega
      have HT : Hid (ds.take k = ds) := List.take_of_length_le (by rw [HL.out]; exact Nat.le_refl _)
      obtain ⟨A1, c1, hv, hcc⟩ : ∃ A1 c1, u5 = .slice A1 (ixL (ds.take k) (q, 0)).length c1 ∧ ((ixL (ds.take k) (q, 0)).length ≤ c1 ∧ c1 ≤ maxLen) := own_slice hown
      subst hv
      go_wp2_with fail
      go_ret
      rw [HT.out] at hown ⊢
      exact ⟨A1, c1, rfl, hB, hown⟩

def kyJ (T : TL) (days : List Int) (day : Int) : Int × Int := (onL T days day).foldl (fun k x => aftK k x.1) (0, 0)
theorem kyJ_in {T : TL} {days : List Int} {day y : Int} {k i : Nat} {d : Deed} (h : T[k]? = some (d, i)) (hy : days[i]? = some y) (hd : y ≤ day) : kyJ (T.take (k + 1)) days day = aftK (kyJ (T.take k) days day) d := by
  unfold kyJ
  rw [on_in h hy hd, List.foldl_append]
  rfl
theorem kyJ_out {T : TL} {days : List Int} {day y : Int} {k i : Nat} {d : Deed} (h : T[k]? = some (d, i)) (hy : days[i]? = some y) (hd : ¬ y ≤ day) : kyJ (T.take (k + 1)) days day = kyJ (T.take k) days day := by
  unfold kyJ
  rw [on_out h hy hd]

end Go.Proofs.YtaomfjgleddpdaaGreat

/- KeysTrue: who truly holds a lock: the reference's KeyOn. -/
namespace Go.Proofs.YtaomfjgleddpdaaGreat
open Go.RowKit
attribute [local go_sem] Oper.semAt_some

set_option maxRecDepth 100000 in
set_option maxHeartbeats 4000000 in
theorem r_KeyOn (ds : List Deed) (days : List Int) (q ps day kn : Int) (v : Int × Int) (A B : Option Addr) (n c m cm : Nat) (w : World) (hn : n ≤ 1000) (hm : m ≤ 1000000) (hnm : n ≤ m) (hq : 1 ≤ q) (hok : ∀ d ∈ ds, d.okB = true) (hd : Ds w w.heap.size A n ds) (hy : Is w w.heap.size B m days) (hv : kyJ (sub ds (q, 0)) days day = v) :
    Calls Tryz.prog 60 #[.slice A n c, .slice B m cm, .agg #[.int .i64 q, .int .i64 ps, .int .i64 day, .int .i64 kn]] w fun e w' => e = .returned (.agg #[.int .i64 v.1, .int .i64 v.2]) ∧ Below w.heap.size w w' := by
  have HD := Lib.hid hd
  have HL := Lib.hid hd.len
  have HY := Lib.hid hy
  have HLY := Lib.hid hy.len
  have HO := Lib.hid hok
  have HV := Lib.hid hv
  clear hd hy hok hv
  have HXL : Hid ((ixL ds (q, 0)).length ≤ n) := by show _ ≤ _; have h := ixL_len ds (q, 0); rwa [HL.out] at h
  go_enter Tryz.func60, Tryz.ntmps60
  go_wp2_with fail
  refine (r_threadOf_o ds q _ _ _ _ (by omega) hq HO.out (HD.out.now (by (repeat' (first | with_reducible exact Below.refl _ _ | with_reducible assumption | with_reducible refine Below.alloc ?_ ?_ _ | with_reducible refine Below.setCell ?_ ?_ _ | with_reducible refine Below.drew ?_ | (simp; done) | (simp; omega) | omega))))).mono ?_
  rintro e w2 ⟨A2, c2, rfl, hb2, ho2⟩
  have HB2 := Lib.hid (show Below w.heap.size w w2 from Below.then_ (by (repeat' (first | with_reducible exact Below.refl _ _ | with_reducible assumption | with_reducible refine Below.alloc ?_ ?_ _ | with_reducible refine Below.setCell ?_ ?_ _ | with_reducible refine Below.drew ?_ | (simp; done) | (simp; omega) | omega))) hb2)
  have HS2 := Lib.hid hb2.size
  have B5 := Lib.hid ((((BoxA.new w 59 #[.int .i64 q, .int .i64 ps, .int .i64 day, .int .i64 kn]).alloc (.cells #[.int .i64 0, .int .i64 0] 81)).alloc (.cells #[.int .i64 0, .int .i64 0] 81)).ext hb2)
  have B6 := Lib.hid (((BoxA.new (w.alloc (.cells #[.int .i64 q, .int .i64 ps, .int .i64 day, .int .i64 kn] 59)) 81 #[.int .i64 0, .int .i64 0]).alloc (.cells #[.int .i64 0, .int .i64 0] 81)).ext hb2)
  have B7 := Lib.hid ((BoxA.new ((w.alloc (.cells #[.int .i64 q, .int .i64 ps, .int .i64 day, .int .i64 kn] 59)).alloc (.cells #[.int .i64 0, .int .i64 0] 81)) 81 #[.int .i64 0, .int .i64 0]).ext hb2)
  have HOW := Lib.hid ho2
  clear hb2 ho2
  simp only [World.size_alloc] at B5 B6 B7 HOW HS2 
  obtain ⟨w3, rfl⟩ : ∃ w3 : World, w3 = w2 := ⟨_, rfl⟩
  go_wp2_with fail
  go_loopw [16] (fun i wr => ∃ j : Nat, j ≤ (ixL ds (q, 0)).length ∧ i = .int .i64 j ∧ BoxA wr (w.heap.size + 1 + 1) 81 #[.int .i64 (kyJ ((sub ds (q, 0)).take j) days day).1, .int .i64 (kyJ ((sub ds (q, 0)).take j) days day).2] ∧ BoxA wr (w.heap.size + 1) 81 #[.int .i64 0, .int .i64 0] ∧ BoxA wr w.heap.size 59 #[.int .i64 q, .int .i64 ps, .int .i64 day, .int .i64 kn] ∧ wr.ownsRow (w.heap.size + 1 + 1 + 1) 3 1 (.slice A2 (ixL ds (q, 0)).length c2) (ixL ds (q, 0)).length ((ixL ds (q, 0)).map fun x => .int .i64 x) ∧ Below w.heap.size w wr) (fun i _ => (ixL ds (q, 0)).length - (intOf i).toNat)
  case atStart => exact ⟨0, by omega, rfl, B7.out, B6.out, B5.out, HOW.out, HB2.out⟩
  case round =>
    obtain ⟨j, hj, rfl, h7, h6, h5, hown, hB⟩ := hrel
    obtain ⟨wo, rfl⟩ : ∃ wo : World, wo = wr := ⟨_, rfl⟩
    have B7 := Lib.hid h7
    have B6 := Lib.hid h6
    have B5 := Lib.hid h5
    have HOW := Lib.hid hown
    have HBQ := Lib.hid hB
    have hs := Lib.hid h7.lt
    clear h7 h6 h5 hown hB HB2 HS2
    by_cases hlt : j < (ixL ds (q, 0)).length
    · have hsl := ixL_sub ds (q, 0)
      obtain ⟨⟨d, i⟩, hp⟩ : ∃ p, (sub ds (q, 0))[j]? = some p := ⟨_, List.getElem?_eq_getElem (by omega)⟩
      clear hsl
      obtain ⟨hci, hnm2⟩ := sub_mem.1 (List.mem_of_getElem? hp)
      have hxi := ixL_at hp
      have hin : i < n := by have := (List.getElem?_eq_some_iff.1 hci).1; have := HL.out; omega
      have HCI := Lib.hid hci
      have HXI := Lib.hid hxi
      have HP := Lib.hid hp
      clear hp hci hxi hnm2
      obtain ⟨bx, ox, x, eb, hbb, hx, hxc⟩ := (show Is wo wo.heap.size A2 (ixL ds (q, 0)).length (ixL ds (q, 0)) from Rd.of_own HOW.out).at_ (k := j) (by omega)
      cases eb
      rw [HXI.out] at hx
      cases hx
      obtain ⟨by_, oy, y, ey, hby, hy, hyc⟩ := (HY.out.now HBQ.out).at_ (k := i) (by omega)
      cases ey
      have HYI := Lib.hid hy
      clear hy
      have x2 := B5.out.cell 2
      have hl2 := B5.out.lt
      have g1 : (j : Int) < ((ixL ds (q, 0)).length : Int) := by omega
      have g2 : ¬ ((j : Int) < 0) := by omega
      have g3 : (i : Int) < (m : Int) := by omega
      have g4 : ¬ ((i : Int) < 0) := by omega
      have hj60 : j < 1000 := by have := HXL.out; omega
      by_cases hle : y ≤ day
      · have hl1 : decide (y ≤ day) = true := by simpa using hle
        have HJ := Lib.hid (kyJ_in HP.out HYI.out hle)
        clear hle
        go_wp2_with fail
        (refine wp_region_grow (by kernel_rfl) (by kernel_rfl) ?_; (repeat (go_big_quiet_step ((first | fail)))); refine wpQuiet_nil ?_; rintro w1 ⟨⟨_, hb1⟩, rfl⟩; (try dsimp only at hb1 ⊢); obtain ⟨hc1, hf1⟩ := bcell hb1)
        have B7 := Lib.hid (B7.out.ext hb1)
        have B6 := Lib.hid (B6.out.ext hb1)
        have B5 := Lib.hid (B5.out.ext hb1)
        have HOW := Lib.hid (own_ext HOW.out hb1)
        have HBN := Lib.hid (Below.then_ HBQ.out hb1)
        clear hb1 hc1 hf1 hby hyc hbb hxc x2 hl2
        obtain ⟨wf, rfl⟩ : ∃ wf : World, wf = w1 := ⟨_, rfl⟩
        obtain ⟨bd, od, d', ed, hbd, hd', hat⟩ := (HD.out.now HBN.out).at_ hin
        cases ed
        rw [HCI.out] at hd'
        cases hd'
        obtain ⟨a0, a1, a2, a3, a4, a5, a6, a7, a8⟩ := hat
        have y0 := B7.out.cell 0
        have y1 := B7.out.cell 1
        have g5 : (i : Int) < (n : Int) := by omega
        go_wp2_with fail
        refine wp_still_tail 5 (by kernel_rfl) (by kernel_rfl) ?_
        simp only [List.take_succ_cons, List.take_zero, List.drop_succ_cons, List.drop_zero]
        iterate 5 still_step
        refine wpStill_nil ?_
        go_wp2_with fail
        refine (r_after _ _ d (aftK (kyJ ((sub ds (q, 0)).take j) days day) d) _ rfl).mono ?_
        rintro e w4 ⟨rfl, hb4⟩
        have hb4' : Below wf.heap.size wf w4 := Below.then_ (Below.refl wf.heap.size wf).drew hb4
        have B7a := Lib.hid (B7.out.ext hb4')
        have B6a := Lib.hid (B6.out.ext hb4')
        have B5a := Lib.hid (B5.out.ext hb4')
        have HOWa := Lib.hid (own_ext HOW.out hb4')
        have HBa := Lib.hid (Below.then_ HBN.out hb4')
        have u0 := B7a.out.cell 0
        have u1 := B7a.out.cell 1
        have uf := boxa_frozen B7a.out 0
        have ug := boxa_frozen B7a.out 1
        clear hb4 a0 a1 a2 a3 a4 a5 a6 a7 a8 y0 y1
        obtain ⟨wg, rfl⟩ : ∃ wg : World, wg = w4 := ⟨_, rfl⟩
        go_wp2_with fail
        go_roundw
        case rel =>
          refine ⟨j + 1, by omega, by go_num, ?_, ?_, ?_, ?_, (HBa.out.setCell (by simp <;> omega) _).setCell (by simp <;> omega) _⟩
          · rw [HJ.out]
            exact boxa_set2 B7a.out _ _
          · exact boxa_other (boxa_other B6a.out (by simp) _) (by simp) _
          · exact boxa_other (boxa_other B5a.out (by simp <;> omega) _) (by simp <;> omega) _
          · refine own_keep HOWa.out fun b hb => ?_
            have h1 := own_base HOWa.out hb
            rw [Below.heap_setCell _ _ _ _ (by simp; omega), Below.heap_setCell _ _ _ _ (by simp; omega)]
        case measure => simp [intOf] <;> omega
      · have hl1 : decide (y ≤ day) = false := by simpa using hle
        have HJ := Lib.hid (kyJ_out HP.out HYI.out hle)
        clear hle
        go_wp2_with fail
        (refine wp_region_grow (by kernel_rfl) (by kernel_rfl) ?_; (repeat (go_big_quiet_step ((first | fail)))); refine wpQuiet_nil ?_; rintro w1 ⟨⟨_, hb1⟩, rfl⟩; (try dsimp only at hb1 ⊢); obtain ⟨hc1, hf1⟩ := bcell hb1)
        have HFIN : Hid (BoxA w1 (w.heap.size + 1 + 1) 81 #[.int .i64 (kyJ ((sub ds (q, 0)).take (j + 1)) days day).1, .int .i64 (kyJ ((sub ds (q, 0)).take (j + 1)) days day).2]) := by show BoxA _ _ _ _; rw [HJ.out]; exact B7.out.ext hb1
        have B6 := Lib.hid (B6.out.ext hb1)
        have B5 := Lib.hid (B5.out.ext hb1)
        have HOW := Lib.hid (own_ext HOW.out hb1)
        have HBN := Lib.hid (Below.then_ HBQ.out hb1)
        clear hb1 hc1 hf1 hby hyc hbb hxc x2 hl2
        go_wp2_with fail
        go_roundw
        case rel => exact ⟨j + 1, by omega, by go_num, HFIN.out, B6.out, B5.out, HOW.out, HBN.out⟩
        case measure => simp [intOf] <;> omega
    · have hy : kyJ ((sub ds (q, 0)).take j) days day = v := by
        rw [← HV.out, List.take_of_length_le]
        have := ixL_sub ds (q, 0)
        omega
      have B7 := Lib.hid (hy ▸ B7.out)
      have y0 := B7.out.cell 0
      have y1 := B7.out.cell 1
      have z0 := B6.out.cell 0
      have z1 := B6.out.cell 1
      have zf := boxa_frozen B6.out 0
      have zg := boxa_frozen B6.out 1
      clear hy
      go_wp2_with fail
      have hr := boxa_set2 B6.out (.int .i64 v.1) (.int .i64 v.2)
      have r0 := hr.cell 0
      have r1 := hr.cell 1
      refine bodyPost_ret (v := .agg #[.int .i64 v.1, .int .i64 v.2]) (by simp [results, Tryz.results60, go_sem, r0, r1]) rfl ⟨rfl, (HBQ.out.setCell (by simp <;> omega) _).setCell (by simp <;> omega) _⟩

end Go.Proofs.YtaomfjgleddpdaaGreat

/- KeysTrue: the reference's Pick. -/
namespace Go.Proofs.YtaomfjgleddpdaaGreat
open Go.RowKit Go.Maps
attribute [local go_sem] Oper.semAt_some

theorem mod_valW {a m : Int} (hm : 0 < m) (hm2 : m ≤ 1125899906842624) : (wrap64 (a.tmod m + m)).tmod m = a % m := by
  have h0 := Int.emod_nonneg a (Int.ne_of_gt hm)
  have h2 := Int.emod_lt_of_pos a hm
  have hw : wrap64 (a.tmod m + m) = a.tmod m + m := IntWalk.wrap64_in _ (by rcases mod_mid (a := a) hm with h1 | h1 <;> rw [h1] <;> constructor <;> omega)
  rw [hw]
  rcases mod_mid (a := a) hm with h1 | h1
  · rw [h1, Int.tmod_eq_emod_of_nonneg (by omega), Int.add_emod_right, Int.emod_emod]
  · rw [h1, Int.tmod_eq_emod_of_nonneg h0, Int.emod_emod]
set_option maxHeartbeats 1000000 in
theorem r_modW (a m : Int) (w : World) (hm : 0 < m) (hm2 : m ≤ 1125899906842624) :
    Calls Tryz.prog 26 #[.int .i64 a, .int .i64 m] w fun e w' => e = .returned (.int .i64 (a % m)) ∧ w = w' := by
  have hz : ¬ m = 0 := by omega
  go_enter Tryz.func26, Tryz.ntmps26
  go_wp2
  go_ret
  exact ⟨ret_int (mod_valW hm hm2), rfl⟩

/-- The i-th of numbers, round and round. -/
def pickI (xs : List Int) (i : Int) : Int := if xs.length = 0 then 0 else (xs[(i % (xs.length : Int)).toNat]?).getD 0
set_option maxHeartbeats 1000000 in
theorem r_Pick (xs : List Int) (i v : Int) (A : Option Addr) (n c : Nat) (w : World) (hn : n ≤ 1125899906842624) (h : Is w w.heap.size A n xs) (hv : pickI xs i = v) :
    Calls Tryz.prog 123 #[.slice A n c, .int .i64 i] w fun e w' => e = .returned (.int .i64 v) ∧ Below w.heap.size w w' := by
  have HI := Lib.hid h
  have HL := Lib.hid h.len
  have HV := Lib.hid hv
  clear h hv
  by_cases h0 : n = 0
  · subst h0
    have hv : v = 0 := by rw [← HV.out, pickI, if_pos HL.out]
    subst hv
    go_enter Tryz.func123, Tryz.ntmps123
    go_wp2_with fail
    go_ret
    exact ⟨rfl, Below.refl _ _⟩
  · have hp : (0 : Int) < (n : Int) := by omega
    have h1 := Int.emod_nonneg i (show (n : Int) ≠ 0 by omega)
    have h2 := Int.emod_lt_of_pos i hp
    obtain ⟨k, hk⟩ : ∃ k : Nat, i % (n : Int) = (k : Int) := ⟨(i % (n : Int)).toNat, by omega⟩
    have hkn : k < n := by omega
    obtain ⟨b, o, x, rfl, hb, hx, hc⟩ := HI.out.at_ hkn
    have hv : x = v := by
      rw [← HV.out, pickI, if_neg (by rw [HL.out]; exact h0), HL.out, hk, Int.toNat_natCast, hx]
      rfl
    have HK := Lib.hid hk
    subst hv
    have g1 : (k : Int) < (n : Int) := by omega
    have g2 : ¬ ((k : Int) < 0) := by omega
    have g3 : ((n : Int) == 0) = false := by simp; omega
    have hm := r_modW i (n : Int) w hp (by omega)
    rw [hk] at hm
    have HM := Lib.hid hm
    clear hm hk h1 h2 hx
    go_enter Tryz.func123, Tryz.ntmps123
    go_wp2_with fail
    refine HM.out.mono ?_
    rintro e w1 ⟨rfl, rfl⟩
    go_wp2_with fail
    go_ret
    exact ⟨rfl, by (repeat' (first | with_reducible exact Below.refl _ _ | with_reducible assumption | with_reducible refine Below.alloc ?_ ?_ _ | with_reducible refine Below.setCell ?_ ?_ _ | with_reducible refine Below.drew ?_ | (simp; done) | (simp; omega) | omega))⟩

end Go.Proofs.YtaomfjgleddpdaaGreat
