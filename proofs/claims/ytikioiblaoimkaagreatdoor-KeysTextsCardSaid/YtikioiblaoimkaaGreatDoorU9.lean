import Derived.Test.YtikioiblaoimkaaGreatDoorU7
import Derived.Test.YtikioiblaoimkaaGreatDoorU5
import Derived.Test.YtikioiblaoimkaaGreatDoorU2
import Derived.Shelf.Strings.FieldsFuncGrows
import Derived.Shelf.Strings.Split
import Derived.Shelf.Strings.Prefix
import Derived.BigGuard
set_option linter.unusedVariables false
set_option linter.unusedSimpArgs false

/- The library's Split and FieldsFunc as the program calls them. -/
namespace Go.Proofs.YtikioiblaoimkaaGreatDoor
open Go.RowKit Go.Shelf Go.Lib

/-- The library's cell MaxLen. -/
def MaxW (w : World) : Prop := ∃ m, w.cell? ⟨Tryz.laysSplit_ren.g 1, 0, none⟩ = some (.int .i64 m)
theorem MaxW.ext {w w' : World} (h : MaxW w) (hb : Below w.heap.size w w') : MaxW w' := by
  obtain ⟨m, hm⟩ := h
  exact ⟨m, (hb.cell (p := ⟨_, 0, none⟩) (block_lt_of_cell hm)).trans hm⟩
theorem p_space (x : Nat) (w : World) : Calls Tryz.prog 116 #[.int .i32 x] w fun e w' => e = .returned (.bool (isSp32 x)) ∧ Below w.heap.size w w' := by
  by_cases h : x = 32
  · subst h
    go_enter Tryz.func116, Tryz.ntmps116
    go_wp2
    go_ret
    exact ⟨rfl, Below.refl _ _⟩
  · have h1 : ¬ (x : Int) = 32 := by omega
    have h2 : isSp32 x = false := by simp [isSp32, h]
    rw [h2]
    go_enter Tryz.func116, Tryz.ntmps116
    go_wp2
    go_ret
    exact ⟨by first | rfl | simp [h1] | (simp; omega), Below.refl _ _⟩
theorem p_grows (w : World) : PredGrows Tryz.prog 116 #[] isSp32 w := fun W x _ _ => p_space x W
theorem infoSpan : (Tryz.prog.info? (Tryz.laysFF_ren.t 154)).map (fun i => (i.zero, i.size, i.bytes)) = some (some (.agg #[.int .i64 0, .int .i64 0]), 2, 16) := by kernel_rfl
theorem infoStr2 : (Tryz.prog.info? 9).map (fun i => (i.zero, i.size, i.bytes)) = some (some (.string ByteArray.empty), 1, 16) := by kernel_rfl
theorem infoStr3 : (Tryz.prog.info? 9).map (fun i => (i.zero, i.size, i.bytes)) = some (some (.string ⟨#[]⟩), 1, 16) := by kernel_rfl
theorem l_Fields (l : List UInt8) (w : World) (hs : l.length ≤ 100000) :
    Calls Tryz.prog 115 #[strV l, .func (.func 116) #[] #[]] w fun e w' => ∃ A, e = .returned (.slice (some ⟨A, 0, none⟩) (wdL l).length (wdL l).length) ∧ Sts w' w'.heap.size (some ⟨A, 0, none⟩) (wdL l).length (wdL l) ∧ Below w.heap.size w w' := by
  have hsz : (⟨l.toArray⟩ : ByteArray).size ≤ 4294967296 := by rw [ba_size]; omega
  refine (Any.strings_FieldsFunc_grows Tryz.laysFF 116 #[] (enters_of Tryz.func116 (by kernel_rfl) rfl) isSp32 ⟨l.toArray⟩ w hsz (p_grows w) infoSpan infoStr3).mono ?_
  rintro e w' ⟨A, he, hA, hown, hb⟩
  rw [goFields_wd] at he hown
  simp only [List.length_map, List.map_map] at he hown
  exact ⟨A, he, Rd.of_own hown, hb⟩
theorem l_Split (s : ByteArray) (w : World) (hs : s.size ≤ 100000) (hm : MaxW w) :
    Calls Tryz.prog 81 #[.string s, .string ⟨#[10]⟩] w fun e w' => e = .returned (.slice (some ⟨w.heap.size, 0, none⟩) (lnL s.data.toList).length (lnL s.data.toList).length) ∧ w' = w.alloc (.cells ((lnL s.data.toList).map strV).toArray 9) := by
  obtain ⟨m, hm⟩ := hm
  have h1 : (1 : Nat) ≤ (⟨#[10]⟩ : ByteArray).size := by decide
  have hl := splitB_all ⟨#[10]⟩ h1 0 (countB s ⟨#[10]⟩) s rfl
  refine (Any.strings_Split Tryz.laysSplit infoStr2 s ⟨#[10]⟩ m w (by omega) hm h1).mono ?_
  rintro e w' ⟨he, hw⟩
  rw [← hl, splitB_ln] at he
  rw [splitB_ln] at hw
  simp only [List.length_map, List.map_map] at he hw
  exact ⟨he, hw⟩

/-- Whether a line begins with the sign of what is not said. -/
theorem p_hash (l : List UInt8) (v : Bool) (w : World) (hv : (l.head? == some 35) = v) : Calls Tryz.prog 114 #[strV l, .string ⟨#[35]⟩] w fun e w' => e = .returned (.bool v) ∧ w = w' := by
  refine (Any.strings_HasPrefix Tryz.laysHP ⟨l.toArray⟩ ⟨#[35]⟩ w).mono ?_
  rintro e w' ⟨he, hw⟩
  refine ⟨?_, hw.symm⟩
  rw [he, ← hv]
  congr 2
  cases l with
  | nil => rfl
  | cons b t => show (35 == b && true) = (some b == some 35); rw [Bool.and_true, Bool.eq_iff_iff]; simp; exact eq_comm
theorem p_Words_no (l : List UInt8) (w : World) (hs : l.length ≤ 100000) (h : saysB l = false) :
    Calls Tryz.prog 82 #[strV l] w fun e w' => ∃ A c, e = .returned (.slice A 0 c) ∧ Below w.heap.size w w' := by
  cases hh : (l.head? == some 35) with
  | true =>
    have HH := Lib.hid hh
    clear hh h
    go_enter Tryz.func82, Tryz.ntmps82
    go_wp2_with (go_at_call 114; refine (p_hash l true _ HH.out).mono ?_; rintro e w1 ⟨rfl, rfl⟩)
    go_ret
    exact ⟨_, _, rfl, Below.refl _ _⟩
  | false =>
    have hw : wdL l = [] := by
      rw [saysB, hh] at h
      simpa using h
    have hff := l_Fields l w hs
    rw [hw] at hff
    simp only [List.length_nil] at hff
    have HF := Lib.hid hff
    have HH := Lib.hid hh
    clear hh h hff hw
    go_enter Tryz.func82, Tryz.ntmps82
    go_wp2_with (first | (go_at_call 114; refine (p_hash l false _ HH.out).mono ?_; rintro e w1 ⟨rfl, rfl⟩) | (go_at_call 115; refine HF.out.mono ?_; rintro e w2 ⟨A, rfl, hst, hb2⟩))
    go_ret
    exact ⟨_, _, rfl, hb2⟩
theorem p_Words_yes (l : List UInt8) (w : World) (hs : l.length ≤ 100000) (h : saysB l = true) :
    Calls Tryz.prog 82 #[strV l] w fun e w' => ∃ A, e = .returned (.slice (some ⟨A, 0, none⟩) (wdL l).length (wdL l).length) ∧ Sts w' w'.heap.size (some ⟨A, 0, none⟩) (wdL l).length (wdL l) ∧ Below w.heap.size w w' := by
  have hh : (l.head? == some 35) = false := by
    rw [saysB, Bool.and_eq_true] at h
    simpa using h.2
  have HF := Lib.hid (l_Fields l w hs)
  have HH := Lib.hid hh
  clear hh h
  go_enter Tryz.func82, Tryz.ntmps82
  go_wp2_with (first | (go_at_call 114; refine (p_hash l false _ HH.out).mono ?_; rintro e w1 ⟨rfl, rfl⟩) | (go_at_call 115; refine HF.out.mono ?_; rintro e w2 ⟨A, rfl, hst, hb2⟩))
  go_ret
  exact ⟨A, rfl, hst, hb2⟩

end Go.Proofs.YtikioiblaoimkaaGreatDoor

/- The program's Spoken: an iterator whose rounds may panic. -/
namespace Go.Proofs.YtikioiblaoimkaaGreatDoor
open Go.RowKit Go.Shelf Go.Lib

/-- A spoken line: its number, its bytes, where its words lie. -/
abbrev Spk := Nat × List UInt8 × Nat
def encK (x : Spk) : Array Value := #[.int .i64 x.1, .slice (some ⟨x.2.2, 0, none⟩) (wdL x.2.1).length (wdL x.2.1).length]
def MxK (x : Spk) (w : World) : Prop := Sts w w.heap.size (some ⟨x.2.2, 0, none⟩) (wdL x.2.1).length (wdL x.2.1) ∧ saysB x.2.1 = true
def spk (x : Spk) : Nat × List UInt8 := (x.1, x.2.1)

theorem lnGo_count : ∀ (l cur : List UInt8), (lnGo cur l).length ≤ l.length + 1
  | [], cur => by simp [lnGo]
  | b :: t, cur => by
    rw [lnGo]
    split
    · have := lnGo_count t []
      simp only [List.length_cons]
      omega
    · have := lnGo_count t (cur ++ [b])
      simp only [List.length_cons]
      omega
theorem spoken_out {ls : List (List UInt8)} {k : Nat} {x : List UInt8} (h : ls[k]? = some x) (hs : saysB x = false) : spokenL 0 (ls.take (k + 1)) = spokenL 0 (ls.take k) := by rw [spoken_succ h, hs]; simp

set_option maxRecDepth 100000 in
set_option maxHeartbeats 4000000 in
theorem spoken_P (s : ByteArray) (b : Nat) (w : World) (hs : s.size ≤ 100000) (hm : MaxW w) (hc : w.cell? ⟨b, 0, none⟩ = some (.string s)) :
    SeqP Tryz.prog 80 #[.pointer (some ⟨b, 0, none⟩)] encK 41 MxK (fun xs => xs.map spk <+: spokenL 0 (lnL s.data.toList)) (fun xs => xs.map spk = spokenL 0 (lnL s.data.toList)) w := by
  intro l J Jx W hW hJ hY h0
  have hc' : W.cell? ⟨b, 0, none⟩ = some (.string s) := (hW.cell (p := ⟨b, 0, none⟩) (block_lt_of_cell hc)).trans hc
  have hbl := block_lt_of_cell hc'
  have HSP := Lib.hid (l_Split s W hs (hm.ext hW))
  obtain ⟨t, ht⟩ : ∃ t, s.data.toList = t := ⟨_, rfl⟩
  have htl : t.length = s.size := by rw [← ht, Lib.size_eq]
  rw [ht] at HSP
  rw [ht] at hY
  rw [ht]
  have hll : ∀ x ∈ lnL t, x.length ≤ 100000 := fun x hx => by
    have := lnGo_len t [] x hx
    simp at this
    omega
  have hlc : (lnL t).length ≤ 100001 := by
    have := lnGo_count t []
    show (lnGo [] t).length ≤ _
    omega
  obtain ⟨ls, hls⟩ : ∃ ls, lnL t = ls := ⟨_, rfl⟩
  rw [hls] at HSP hll hY hlc
  rw [hls]
  have HLL := Lib.hid hll
  have HY := Lib.hid hY
  have HJ := Lib.hid hJ
  clear hls hll ht hY hJ hm hc hW
  refine callsIn_of_wp Tryz.func80 rfl trivial ?_ rfl
  simp only [Tryz.ntmps80, List.size_toArray, List.length_cons, List.length_nil, Nat.reduceAdd, Nat.reduceSub, Array.replicate_succ, Array.replicate_zero, List.push_toArray, List.append_toArray, List.nil_append, List.cons_append]
  gi_wp2_with (refine ⟨trivial, ?_⟩; gi_at_call 81; refine (callsIn_wide.2 HSP.out).mono ?_; rintro e w1 ⟨rfl, rfl⟩)
  have hh : (W.alloc (.cells (ls.map strV).toArray 9)).heap[W.heap.size]? = some (.cells (ls.map strV).toArray 9 (0, 0)) := heap_alloc_new W _
  have hJ0 : J [] (W.alloc (.cells (ls.map strV).toArray 9)) := HJ.out _ _ _ h0 ((Below.refl _ _).alloc (Nat.le_refl _) _)
  gi_loopw [9] (fun i wr => ∃ k : Nat, k ≤ ls.length ∧ i = .int .i64 k ∧ wr.heap[W.heap.size]? = some (.cells (ls.map strV).toArray 9 (0, 0)) ∧ ∃ pre : List Spk, pre.map spk = spokenL 0 (ls.take k) ∧ J pre wr) (fun i _ => ls.length - (intOf i).toNat)
  case atStart => exact ⟨0, by omega, rfl, hh, [], rfl, hJ0⟩
  case round =>
    obtain ⟨k, hk, rfl, hrow, pre, hpre, hJp⟩ := hrel
    by_cases hlt : k < ls.length
    · obtain ⟨x, hx⟩ : ∃ x, ls[k]? = some x := ⟨_, List.getElem?_eq_getElem hlt⟩
      have hxl := HLL.out x (List.mem_of_getElem? hx)
      obtain ⟨y, hy⟩ : ∃ y : ByteArray, ⟨x.toArray⟩ = y := ⟨_, rfl⟩
      have hyx : y.data.toList = x := by rw [← hy]
      have hcell : wr.cell? ⟨W.heap.size, k, none⟩ = some (.string y) := by
        rw [Lib.cell_of_heap hrow, ← hy]
        simp [hx, strV]
      have HX := Lib.hid hx
      have HP := Lib.hid hpre
      have HR := Lib.hid hrow
      have HYX := Lib.hid hyx
      have hsz := (block_lt_of_cell hcell)
      clear hx hpre hrow hyx
      cases hsays : saysB x with
      | false =>
        have hwn := p_Words_no x wr hxl hsays
        unfold strV at hwn
        rw [hy] at hwn
        have HF := Lib.hid hwn
        have HO := Lib.hid (spoken_out HX.out hsays)
        clear hwn hsays hy
        gi_wp2_with (refine ⟨trivial, ?_⟩; gi_at_call 82; refine (callsIn_wide.2 HF.out).mono ?_; clear HF; rintro e w2 ⟨A, c, rfl, hb2⟩)
        exact ⟨⟨k + 1, by omega, by go_num, (hb2.block _ hsz).trans HR.out, pre, by rw [HO.out]; exact HP.out, HJ.out _ _ _ hJp hb2⟩, by simp [intOf]; omega⟩
      | true =>
        have hwn := p_Words_yes x wr hxl hsays
        obtain ⟨ws, hws⟩ : ∃ ws, wdL x = ws := ⟨_, rfl⟩
        have he : ws ≠ [] := by
          intro e
          rw [saysB, hws, e] at hsays
          cases hsays
        rw [hws] at hwn
        unfold strV at hwn
        rw [hy] at hwn
        obtain ⟨n, hn⟩ : ∃ n, ws.length = n := ⟨_, rfl⟩
        have hn0 : ¬ (n : Int) = 0 := by
          rw [← hn]
          intro h
          exact he (List.eq_nil_of_length_eq_zero (by omega))
        rw [hn] at hwn
        have HF := Lib.hid hwn
        have HW := Lib.hid hws
        have HN := Lib.hid hn
        have HO := Lib.hid (spoken_succ HX.out)
        have HS := Lib.hid hsays
        have HSp := Lib.hid (spoken_split HX.out hsays)
        have hcnd : ((n : Int) == 0) = false := by rw [beq_eq_false_iff_ne]; exact hn0
        clear hwn hsays hy hws hn he
        gi_wp2_with (refine ⟨trivial, ?_⟩; gi_at_call 82; refine (callsIn_wide.2 HF.out).mono ?_; clear HF; rintro e w2 ⟨A, rfl, hst, hb2⟩)
        have hJ2 : J pre w2 := HJ.out _ _ _ hJp hb2
        have hrow2 := (hb2.block _ hsz).trans HR.out
        have hpp : (pre ++ [((k + 1, x, A) : Spk)]).map spk <+: spokenL 0 ls := by
          obtain ⟨r, hr⟩ := HSp.out
          rw [hr, List.map_append, HP.out]
          exact ⟨r, by simp [spk]⟩
        have hmx : MxK (k + 1, x, A) w2 := ⟨by simp only [HW.out, HN.out]; exact hst, HS.out⟩
        obtain ⟨fn, tmps, assign, body, hyy, hR⟩ := HY.out 7 pre (k + 1, x, A) w2 hJ2 hpp hmx
        simp only [encK, HW.out, HN.out, Int.natCast_add, Int.cast_ofNat_Int] at hyy
        rw [hyy]
        simp only [Oper.uponIn]
        refine ⟨fun _ => by omega, ?_⟩
        refine hR.mono ?_
        have hpre2 : (pre ++ [((k + 1, x, A) : Spk)]).map spk = spokenL 0 (ls.take (k + 1)) := by
          rw [HO.out, HS.out, List.map_append, HP.out]
          simp [spk]
        rintro e w3 (⟨rfl, hJ3, hk3⟩ | ⟨ch, rfl, hJx3⟩)
        · gi_wp2
          exact ⟨⟨k + 1, by omega, by go_num, hk3.blk _ _ (Nat.le_refl _) hrow2 (fun cs fr e => by injection e with _ e2 _; exact absurd e2 (by decide)), pre ++ [((k + 1, x, A) : Spk)], hpre2, hJ3⟩, by simp [intOf]; omega⟩
        · gi_wp2
          exact ⟨rfl, .inr ⟨ch, _, rfl, hJx3⟩⟩
    · have hkn : k = ls.length := by omega
      gi_wp2
      go_end0
      exact .inl ⟨_, pre, rfl, by rw [hpre, hkn, List.take_length], hJp⟩

end Go.Proofs.YtikioiblaoimkaaGreatDoor
