import Derived.Test.YtikioiblaoimkaaGreatDoorU4
set_option linter.unusedVariables false
set_option linter.unusedSimpArgs false

/- The reference's Row and Print. -/
namespace Go.Proofs.YtikioiblaoimkaaGreatDoor
open Go.RowKit

theorem numsT_snoc (l : List Int) (k : Nat) (x : Int) (h : l[k]? = some x) (h0 : 0 ≤ x) : numsT (l.take (k + 1)) = numsT (l.take k) ++ 32 :: Lib.decDigits x.toNat := by
  rw [take_snoc_some h]
  simp [numsT, itoa_pos h0]
theorem numsT_len (l : List Int) (h : ∀ n ∈ l, 0 ≤ n ∧ n ≤ 100000) : (numsT l).length ≤ 7 * l.length := by
  induction l with
  | nil => simp [numsT]
  | cons n ns ih =>
    have h0 := h n (List.mem_cons_self)
    have h1 := ih fun m hm => h m (List.mem_cons_of_mem _ hm)
    have h2 := (dec_len 6 n.toNat (by omega) (by simp; omega)).2
    have e : numsT (n :: ns) = 32 :: (Lib.decDigits n.toNat ++ numsT ns) := by simp [numsT, itoa_pos h0.1]
    rw [e]
    simp
    omega
theorem ba_size (l : List UInt8) : (⟨l.toArray⟩ : ByteArray).size = l.length := by rw [size_len]
theorem ba_append (a b : List UInt8) : (⟨a.toArray⟩ : ByteArray) ++ ⟨b.toArray⟩ = ⟨(a ++ b).toArray⟩ := ByteArray.mk_append_mk _ _
theorem r_Text_i (x : Int) (h0 : 0 ≤ x) (h1 : x ≤ 100000) (w : World) : Calls Tryz.prog 39 #[.int .i64 x] w fun e w' => e = .returned (.string ⟨(Lib.decDigits x.toNat).toArray⟩) ∧ Below w.heap.size w w' := by
  have h := r_Text x.toNat w (by omega)
  rw [show ((x.toNat : Nat) : Int) = x from by omega] at h
  exact h

set_option maxRecDepth 10000 in
set_option maxHeartbeats 1000000 in
theorem r_Row (l : List Int) (A : Option Addr) (n c : Nat) (w : World) (hn : n ≤ 100) (hl : ∀ x ∈ l, 0 ≤ x ∧ x ≤ 100000) (hd : Is w w.heap.size A n l) :
    Calls Tryz.prog 15 #[.string ⟨deedW.toArray⟩, .slice A n c] w fun e w' => e = .returned (.string ⟨(deedW ++ numsT l).toArray⟩) ∧ Below w.heap.size w w' := by
  have hlen := hd.len
  have HD := Lib.hid hd
  have HL := Lib.hid hlen
  have HV := Lib.hid hl
  clear hd hlen hl
  obtain ⟨w0, hw0⟩ : ∃ w0 : ByteArray, ⟨deedW.toArray⟩ = w0 := ⟨_, rfl⟩
  have HW0 := Lib.hid hw0
  rw [hw0]
  clear hw0
  go_enter Tryz.func15, Tryz.ntmps15
  go_wp2
  go_loopw [0, 9] (fun v i wr => ∃ (k : Nat) (wd : ByteArray), k ≤ n ∧ i = .int .i64 k ∧ v = .string wd ∧ (⟨(deedW ++ numsT (l.take k)).toArray⟩ : ByteArray) = wd ∧ Below w.heap.size w wr) (fun _ i _ => n - (intOf i).toNat)
  case atStart => exact ⟨0, w0, by omega, rfl, rfl, by rw [← HW0.out]; rfl, Below.refl _ _⟩
  case round =>
    obtain ⟨k, wd, hk, rfl, rfl, hwd, hB⟩ := hrel
    have hsz : 4 ≤ wd.size ∧ wd.size ≤ 4 + 7 * k := by
      rw [← hwd, ba_size, List.length_append]
      have h1 := numsT_len (l.take k) fun x hx => HV.out x (List.mem_of_mem_take hx)
      have h2 : (l.take k).length ≤ k := List.length_take_le _ _
      have h3 : deedW.length = 4 := rfl
      omega
    have HWD := Lib.hid hwd
    clear hwd
    have hne := tl_ne (s := wd) (by omega)
    have hne2 : (!wd.toList.isEmpty) = true := by simpa using hne
    by_cases hlt : k < n
    · have hDk := Is.ext HD.out hB (Nat.le_refl _)
      obtain ⟨b, o, x, rfl, hb, hx, hc0⟩ := hDk.at_ hlt
      have hxv := HV.out x (List.mem_of_getElem? hx)
      have hx0 := hxv.1
      have hx1 := hxv.2
      have HX := Lib.hid (numsT_snoc l k x hx hx0)
      have HT := Lib.hid (r_Text_i x hx0 hx1)
      obtain ⟨dt, hdt⟩ : ∃ dt : ByteArray, ⟨(Lib.decDigits x.toNat).toArray⟩ = dt := ⟨_, rfl⟩
      have hds : dt.size ≤ 6 := by rw [← hdt, ba_size]; exact (dec_len 6 x.toNat (by omega) (by simp; omega)).2
      rw [hdt] at HT
      obtain ⟨ws, hws⟩ : ∃ ws : ByteArray, wd ++ (⟨#[32]⟩ : ByteArray) = ws := ⟨_, rfl⟩
      have hwss : ws.size = wd.size + 1 := by rw [← hws, ByteArray.size_append]; rfl
      have hbig1 : wd.size + (⟨#[32]⟩ : ByteArray).size ≤ 9223372036854775807 := by
        have : (⟨#[32]⟩ : ByteArray).size = 1 := rfl
        omega
      have hbig2 : ws.size + dt.size ≤ 9223372036854775807 := by omega
      have HR : Hid ((⟨(deedW ++ numsT (l.take (k + 1))).toArray⟩ : ByteArray) = ws ++ dt) := by
        show _ = _
        rw [HX.out, ← hws, ← HWD.out, ← hdt, show (⟨#[32]⟩ : ByteArray) = ⟨([32] : List UInt8).toArray⟩ from rfl, ba_append, ba_append]
        simp
      have HB := Lib.hid hB
      clear hx hxv hdt hDk hB hwss
      go_wp2_with (go_at_call 39; refine (HT.out _).mono ?_; rintro e w1 ⟨rfl, hb1⟩)
      go_roundw
      case rel => exact ⟨k + 1, _, by omega, by go_num, rfl, HR.out, Below.then_ HB.out hb1⟩
      case measure => simp [intOf]; omega
    · have hkn : k = n := by omega
      have HA : Hid (l.take k = l) := by show _ = _; exact List.take_of_length_le (by have := HL.out; omega)
      clear hkn
      go_wp2
      go_ret
      refine ⟨?_, hB⟩
      rw [← HA.out, HWD.out]
      rfl

end Go.Proofs.YtikioiblaoimkaaGreatDoor

/- The reference's Print. -/
namespace Go.Proofs.YtikioiblaoimkaaGreatDoor
open Go.RowKit

/-- What Print hands back. -/
def prtV (ds : List Deed) : Value := if checkB ds = true then .tuple #[.string ⟨(printT ds).toArray⟩, .int .i64 0] else .tuple #[.string ⟨#[]⟩, .int .i64 11]
theorem printT_snoc (ds : List Deed) (k : Nat) (d : Deed) (h : ds[k]? = some d) : printT (ds.take (k + 1)) = printT (ds.take k) ++ (deedW ++ numsT d.nums) ++ [10] := by
  rw [take_snoc_some h]
  simp [printT, rowT]
theorem nums_row (W : World) (d : Deed) : Is (W.alloc (.cells #[.int .i64 d.par, .int .i64 d.no, .int .i64 d.kind, .int .i64 d.lock, .int .i64 d.person, .int .i64 d.lo, .int .i64 d.hi, .int .i64 d.known, .int .i64 d.til] 3)) (W.alloc (.cells #[.int .i64 d.par, .int .i64 d.no, .int .i64 d.kind, .int .i64 d.lock, .int .i64 d.person, .int .i64 d.lo, .int .i64 d.hi, .int .i64 d.known, .int .i64 d.til] 3)).heap.size (some ⟨W.heap.size, 0, none⟩) 9 d.nums :=
  Rd.new W #[.int .i64 d.par, .int .i64 d.no, .int .i64 d.kind, .int .i64 d.lock, .int .i64 d.person, .int .i64 d.lo, .int .i64 d.hi, .int .i64 d.known, .int .i64 d.til] 3 1 9 _ rfl rfl

set_option maxRecDepth 10000 in
set_option maxHeartbeats 1000000 in
theorem r_Print (ds : List Deed) (A : Option Addr) (n c : Nat) (w : World) (hn : n ≤ 9223372036854775807) (hd : Ds w w.heap.size A n ds) :
    Calls Tryz.prog 5 #[.slice A n c] w fun e w' => e = .returned (prtV ds) ∧ Below w.heap.size w w' := by
  have hlen := hd.len
  have hck := r_check ds A n c w hn hd
  have HD := Lib.hid hd
  have HL := Lib.hid hlen
  clear hd hlen
  by_cases hk : checkB ds = true
  · have HV : Hid (prtV ds = .tuple #[.string ⟨(printT ds).toArray⟩, .int .i64 0]) := by show _ = _; rw [prtV, if_pos hk]
    have HO := Lib.hid (okAt_ok hk)
    have hn60 : n ≤ 60 := by
      unfold checkB at hk
      rw [Bool.and_eq_true] at hk
      have h1 := hk.1
      have h2 := HL.out
      simp at h1
      omega
    rw [hk] at hck
    have HC := Lib.hid hck
    clear hck hk hn
    go_enter Tryz.func5, Tryz.ntmps5
    go_wp2_with (go_at_call 14; refine HC.out.mono ?_; rintro e w1 ⟨rfl, hb1⟩)
    go_loopw [5, 15] (fun v i wr => ∃ (k : Nat) (wd : ByteArray), k ≤ n ∧ i = .int .i64 k ∧ v = .string wd ∧ (⟨(printT (ds.take k)).toArray⟩ : ByteArray) = wd ∧ Below w.heap.size w wr) (fun _ i _ => n - (intOf i).toNat)
    case atStart => exact ⟨0, _, by omega, rfl, rfl, rfl, hb1⟩
    case round =>
      obtain ⟨k, wd, hk, rfl, rfl, hwd, hB⟩ := hrel
      have hsz : wd.size ≤ 68 * k := by
        rw [← hwd, ba_size]
        have h1 := print_len (ds.take k) fun x hx => HO.out x (List.mem_of_mem_take hx)
        have h2 : (ds.take k).length ≤ k := List.length_take_le _ _
        omega
      have HWD := Lib.hid hwd
      clear hwd
      by_cases hlt : k < n
      · have hDk := HD.out.ext hB (Nat.le_refl _)
        obtain ⟨b, o, d, rfl, hb, hdk, hat⟩ := hDk.at_ hlt
        have hdo := HO.out d (List.mem_of_getElem? hdk)
        have HX := Lib.hid (printT_snoc ds k d hdk)
        have HN := Lib.hid (d.bounds hdo)
        clear hDk hdk
        obtain ⟨a0, a1, a2, a3, a4, a5, a6, a7, a8⟩ := hat
        have hs0 : w.heap.size ≤ wr.heap.size := hB.size
        obtain ⟨rt, hrt⟩ : ∃ rt : ByteArray, ⟨(deedW ++ numsT d.nums).toArray⟩ = rt := ⟨_, rfl⟩
        have hrs : rt.size ≤ 67 := by rw [← hrt, ba_size]; exact rowT_len hdo
        have hr : ∀ W : World, Is W W.heap.size (some ⟨wr.heap.size + 1, 0, none⟩) 9 d.nums → Calls Tryz.prog 15 #[.string ⟨deedW.toArray⟩, .slice (some ⟨wr.heap.size + 1, 0, none⟩) 9 9] W fun e w' => e = .returned (.string rt) ∧ Below W.heap.size W w' := fun W hI => by
          have h := r_Row d.nums _ 9 9 W (by decide) HN.out hI
          rw [hrt] at h
          exact h
        have HR := Lib.hid hr
        obtain ⟨ws, hws⟩ : ∃ ws : ByteArray, wd ++ rt = ws := ⟨_, rfl⟩
        have hwss : ws.size = wd.size + rt.size := by rw [← hws, ByteArray.size_append]
        have hbig1 : wd.size + rt.size ≤ 9223372036854775807 := by omega
        have hbig2 : ws.size + (⟨#[10]⟩ : ByteArray).size ≤ 9223372036854775807 := by
          have : (⟨#[10]⟩ : ByteArray).size = 1 := rfl
          omega
        have HE : Hid ((⟨(printT (ds.take (k + 1))).toArray⟩ : ByteArray) = ws ++ ⟨#[10]⟩) := by
          show _ = _
          rw [HX.out, ← hws, ← HWD.out, ← hrt, show (⟨#[10]⟩ : ByteArray) = ⟨([10] : List UInt8).toArray⟩ from rfl, ba_append, ba_append]
        have HB := Lib.hid hB
        have hI := nums_row (wr.alloc (.cells #[.int .i64 d.par, .int .i64 d.no, .int .i64 d.kind, .int .i64 d.lock, .int .i64 d.person, .int .i64 d.lo, .int .i64 d.hi, .int .i64 d.known, .int .i64 d.til] 41)) d
        have HI := Lib.hid hI
        clear hrt hr hwss hB hI hdo
        go_wp2_with (go_at_call 15; refine (HR.out _ (by simpa using HI.out)).mono ?_; rintro e w1 ⟨rfl, hb1⟩)
        go_roundw
        case rel =>
          (repeat apply Exists.intro)
          refine ⟨⟨k + 1, _, by omega, by go_num, rfl, HE.out, Below.then_ (W := (wr.alloc (.cells #[.int .i64 d.par, .int .i64 d.no, .int .i64 d.kind, .int .i64 d.lock, .int .i64 d.person, .int .i64 d.lo, .int .i64 d.hi, .int .i64 d.known, .int .i64 d.til] 41)).alloc (.cells #[.int .i64 d.par, .int .i64 d.no, .int .i64 d.kind, .int .i64 d.lock, .int .i64 d.person, .int .i64 d.lo, .int .i64 d.hi, .int .i64 d.known, .int .i64 d.til] 3)) (by have := HB.out; (repeat' (first | with_reducible exact Below.refl _ _ | with_reducible assumption | with_reducible refine Below.alloc ?_ ?_ _ | with_reducible refine Below.setCell ?_ ?_ _ | with_reducible refine Below.drew ?_ | (simp; done) | (simp; omega) | omega))) hb1⟩, ?_⟩
          rfl
        case measure => simp [intOf]; omega
      · have hkn : k = n := by omega
        have HA : Hid (ds.take k = ds) := by show _ = _; exact List.take_of_length_le (by have := HL.out; omega)
        clear hkn
        go_wp2
        refine bodyPost_ret (v := .tuple #[.string wd, .int .i64 0]) (by simp [results, Tryz.f5, go_sem]) rfl ⟨?_, hB⟩
        rw [HV.out, ← HWD.out, HA.out]
  · have HV : Hid (prtV ds = .tuple #[.string ⟨#[]⟩, .int .i64 11]) := by show _ = _; rw [prtV, if_neg hk]
    have hkf : checkB ds = false := by simpa using hk
    rw [hkf] at hck
    have HC := Lib.hid hck
    clear hck hk hkf
    go_enter Tryz.func5, Tryz.ntmps5
    go_wp2_with (go_at_call 14; refine HC.out.mono ?_; rintro e w1 ⟨rfl, hb1⟩)
    refine bodyPost_ret (v := .tuple #[.string ⟨#[]⟩, .int .i64 11]) (by simp [results, Tryz.f5, go_sem, errI]) rfl ⟨by rw [HV.out], hb1⟩

end Go.Proofs.YtikioiblaoimkaaGreatDoor

/- The reference's Parse: plain facts. -/
namespace Go.Proofs.YtikioiblaoimkaaGreatDoor
open Go.RowKit

theorem lnGo_len : ∀ (l cur x : List UInt8), x ∈ lnGo cur l → x.length ≤ cur.length + l.length
  | [], cur, x, h => by
    simp [lnGo] at h
    subst h
    simp
  | b :: t, cur, x, h => by
    by_cases hb : b = 10
    · simp only [lnGo, hb, if_true, List.mem_cons] at h
      rcases h with rfl | h
      · simp
      · have := lnGo_len t [] x h; simp at this ⊢; omega
    · simp only [lnGo, hb, if_false] at h
      have := lnGo_len t (cur ++ [b]) x h
      simp at this ⊢
      omega
theorem wdGo_len : ∀ (l cur x : List UInt8), x ∈ wdGo cur l → x.length ≤ cur.length + l.length
  | [], cur, x, h => by
    by_cases hc : cur = [] <;> simp [wdGo, hc] at h
    subst h
    simp
  | b :: t, cur, x, h => by
    by_cases hb : b = 32
    · by_cases hc : cur = []
      · simp only [wdGo, hb, hc, if_true] at h
        have := wdGo_len t [] x h; simp at this ⊢; omega
      · simp only [wdGo, hb, hc, if_true, if_false, List.mem_cons] at h
        rcases h with rfl | h
        · simp
        · have := wdGo_len t [] x h; simp at this ⊢; omega
    · simp only [wdGo, hb, if_false] at h
      have := wdGo_len t (cur ++ [b]) x h
      simp at this ⊢
      omega
theorem lnR_mem {l x : List UInt8} (h : x ∈ lnR l) : x.length ≤ l.length := by
  have h1 := ln_fold l [] []
  have h2 : x ∈ lnGo [] l := by
    rw [List.nil_append] at h1
    rw [← h1]
    unfold lnR at h
    rw [List.mem_append] at h ⊢
    rcases h with h | h
    · exact .inl h
    · right
      split at h
      · cases h
      · exact h
  have := lnGo_len l [] x h2
  simpa using this
theorem wdL_mem {l x : List UInt8} (h : x ∈ wdL l) : x.length ≤ l.length := by
  have := wdGo_len l [] x h
  simpa using this
theorem lnR_count (l : List UInt8) : (lnR l).length ≤ l.length + 1 := by
  have h1 := lnS_len l [] []
  unfold lnR
  rw [List.length_append]
  split <;> simp at h1 ⊢ <;> omega
theorem wdL_count (l : List UInt8) : (wdL l).length ≤ l.length + 1 := by
  obtain ⟨d, c, h⟩ : ∃ d c, wdT l (l.length + 1) = (d, c) := ⟨_, _, rfl⟩
  have h1 := wdT_len h
  rw [wdT_all l h] at h1
  exact h1
theorem says_words {l : List UInt8} (h : saysB l = true) : ∃ w0 wt, wdL l = w0 :: wt := by
  unfold saysB at h
  cases hw : wdL l with
  | nil => simp [hw] at h
  | cons a t => exact ⟨a, t, rfl⟩
theorem spoken_succ {ls : List (List UInt8)} {k : Nat} {x : List UInt8} (h : ls[k]? = some x) : spokenL 0 (ls.take (k + 1)) = spokenL 0 (ls.take k) ++ (if saysB x then [(k + 1, x)] else []) := by
  have hk : k < ls.length := (List.getElem?_eq_some_iff.1 h).1
  rw [take_snoc_some h, spokenL_app, List.length_take, Nat.min_eq_left (Nat.le_of_lt hk), Nat.zero_add]
  congr 1
theorem spoken_split {ls : List (List UInt8)} {k : Nat} {x : List UInt8} (h : ls[k]? = some x) (hs : saysB x = true) : ∃ r, spokenL 0 ls = spokenL 0 (ls.take k) ++ (k + 1, x) :: r := by
  refine ⟨spokenL (k + 1) (ls.drop (k + 1)), ?_⟩
  have hk : k < ls.length := (List.getElem?_eq_some_iff.1 h).1
  have e : ls = ls.take (k + 1) ++ ls.drop (k + 1) := (List.take_append_drop _ _).symm
  have h2 : spokenL 0 ls = spokenL 0 (ls.take (k + 1) ++ ls.drop (k + 1)) := by rw [← e]
  rw [h2, spokenL_app, spoken_succ h, if_pos hs, List.length_take, Nat.min_eq_left (by omega), Nat.zero_add, List.append_assoc]
  rfl
/-- So far all is well: what the first lines say. -/
def GoodL (l : List (Nat × List UInt8)) (ds : List Deed) : Prop := (∀ y ∈ l, (lineO y).isNone = false) ∧ ds = l.filterMap lineO
theorem good_out {ls : List (List UInt8)} {k : Nat} {x : List UInt8} {ds : List Deed} (h : ls[k]? = some x) (hs : saysB x = false) (hg : GoodL (spokenL 0 (ls.take k)) ds) : GoodL (spokenL 0 (ls.take (k + 1))) ds := by
  rw [spoken_succ h, hs]
  simpa using hg
theorem good_in {l : List (Nat × List UInt8)} {y : Nat × List UInt8} {d : Deed} {ds : List Deed} (hd : lineO y = some d) (hg : GoodL l ds) : GoodL (l ++ [y]) (ds ++ [d]) := by
  refine ⟨fun z hz => ?_, by rw [List.filterMap_append, hg.2]; simp [hd]⟩
  rw [List.mem_append, List.mem_singleton] at hz
  rcases hz with hz | rfl
  · exact hg.1 z hz
  · rw [hd]; rfl
theorem deedO_none {ws : List (List UInt8)} (h : numsO ws.tail = none) : deedO ws = none := by unfold deedO; rw [h]
theorem deedO_len {ws : List (List UInt8)} {ns : List Nat} (h : numsO ws.tail = some ns) (hl : ns.length ≠ 9) : deedO ws = none := by unfold deedO; rw [h]; simp only; rw [if_neg (fun e => hl e.1)]
theorem deedO_word {w0 : List UInt8} {wt : List (List UInt8)} (hl : w0 ≠ deedW) : deedO (w0 :: wt) = none := by
  unfold deedO
  cases numsO (w0 :: wt).tail with
  | none => rfl
  | some ns => simp only; rw [if_neg (fun e => hl (by simpa using e.2))]
theorem deedO_some {wt : List (List UInt8)} {ns : List Nat} (h : numsO wt = some ns) (hl : ns.length = 9) : deedO (deedW :: wt) = some (mkDeed ns) := by
  unfold deedO
  rw [List.tail_cons, h]
  simp only
  rw [if_pos ⟨hl, by simp⟩]
theorem pars_bad {t : List UInt8} {i : Nat} (h : badN (parsD t) = i) (hi : 0 < i) (hl : t.length ≤ 8000) : parsE t = 5 ∧ parsN t = i ∧ parsL t = [] := by
  have h0 : ¬ 8000 < t.length := by omega
  have h1 : parsE t = 5 := by unfold parsE; rw [if_neg h0, if_pos (by omega)]
  exact ⟨h1, by unfold parsN; rw [if_neg h0, h], by unfold parsL; rw [if_neg (by rw [h1]; decide)]⟩
theorem pars_long {t : List UInt8} (hl : 8000 < t.length) : parsE t = 2 ∧ parsN t = 0 ∧ parsL t = [] := by
  have h1 : parsE t = 2 := by unfold parsE; rw [if_pos hl]
  exact ⟨h1, by unfold parsN; rw [if_pos hl], by unfold parsL; rw [if_neg (by rw [h1]; decide)]⟩
theorem pars_end {t : List UInt8} {ds : List Deed} (hg : GoodL (parsD t) ds) (hl : t.length ≤ 8000) : parsE t = errI (checkB ds) 11 ∧ parsN t = 0 ∧ parsL t = if checkB ds = true then ds else [] := by
  have h0 : ¬ 8000 < t.length := by omega
  have hb := badN_good hg.1
  have h1 : parsE t = errI (checkB ds) 11 := by unfold parsE; rw [if_neg h0, hb, if_neg (by simp), ← hg.2]
  refine ⟨h1, by unfold parsN; rw [if_neg h0, hb]; rfl, ?_⟩
  unfold parsL
  rw [h1, ← hg.2]
  cases checkB ds <;> simp [errI]
theorem bad_at {t : List UInt8} {ls : List (List UInt8)} {k : Nat} {x : List UInt8} {ds : List Deed} (hls : spokenL 0 ls = parsD t) (h : ls[k]? = some x) (hs : saysB x = true) (hg : GoodL (spokenL 0 (ls.take k)) ds) (hd : deedO (wdL x) = none) : badN (parsD t) = k + 1 := by
  obtain ⟨r, hr⟩ := spoken_split h hs
  rw [← hls, hr]
  exact badN_first hg.1 (by unfold lineO; rw [hd]; rfl)
/-- What Parse hands back. -/
def RetPrs (t : List UInt8) (w : World) (e : Ending) (w' : World) : Prop :=
  ∃ A c, e = .returned (.tuple #[.slice A (parsL t).length c, .int .i64 (parsN t), .int .i64 (parsE t)]) ∧ Below w.heap.size w w' ∧ Ds w' w'.heap.size A (parsL t).length (parsL t) ∧ (parsL t).length ≤ c ∧ c ≤ maxLen
theorem retPrs_none {t : List UInt8} {w w' : World} {a b : Int} (h : parsE t = b ∧ parsN t = a ∧ parsL t = []) (hb : Below w.heap.size w w') : RetPrs t w (.returned (.tuple #[.slice none 0 0, .int .i64 a, .int .i64 b])) w' := by
  obtain ⟨h1, h2, h3⟩ := h
  unfold RetPrs
  rw [h1, h2, h3]
  exact ⟨none, 0, rfl, hb, Rd.nil_, Nat.le_refl _, Nat.zero_le _⟩

theorem r_Numbers_none {ws : List (List UInt8)} (h : numsO ws = none) (A : Option Addr) (n c : Nat) (w : World) (hn : n ≤ 100000) (hl : ∀ x ∈ ws, x.length ≤ 100000) (hd : Sts w w.heap.size A n ws) :
    Calls Tryz.prog 20 #[.slice A n c, .int .i64 6] w fun e w' => e = .returned (.tuple #[.slice none 0 0, .bool false]) ∧ Below w.heap.size w w' :=
  (r_Numbers ws A n c w hn hl hd).mono fun e w' hr => by
    rcases hr with ⟨_, h1, h2⟩ | ⟨ns, A, c, h1, _⟩
    · exact ⟨h1, h2⟩
    · rw [h] at h1; cases h1
theorem r_Numbers_some {ws : List (List UInt8)} {ns : List Nat} (h : numsO ws = some ns) (A : Option Addr) (n c : Nat) (w : World) (hn : n ≤ 100000) (hl : ∀ x ∈ ws, x.length ≤ 100000) (hd : Sts w w.heap.size A n ws) :
    Calls Tryz.prog 20 #[.slice A n c, .int .i64 6] w fun e w' => ∃ A1 c1, e = .returned (.tuple #[.slice A1 ns.length c1, .bool true]) ∧ Below w.heap.size w w' ∧ Rd w' w'.heap.size 1 A1 ns.length (numCells ns) ∧ ns.length ≤ c1 ∧ c1 ≤ maxLen ∧ ∀ g, (Value.slice A1 ns.length c1).ownBlock = some g → w.heap.size ≤ g :=
  (r_Numbers ws A n c w hn hl hd).mono fun e w' hr => by
    rcases hr with ⟨h1, _⟩ | ⟨ms, A, c, h1, h2⟩
    · rw [h] at h1; cases h1
    · obtain rfl := Option.some.inj (h1.symm.trans h)
      exact ⟨A, c, h2⟩
theorem p_Numbers_none {ws : List (List UInt8)} (h : numsO ws = none) (A : Option Addr) (n c : Nat) (w : World) (hn : n ≤ 100000) (hl : ∀ x ∈ ws, x.length ≤ 100000) (hd : Sts w w.heap.size A n ws) :
    Calls Tryz.prog 83 #[.slice A n c, .int .i64 6] w fun e w' => e = .returned (.tuple #[.slice none 0 0, .bool false]) ∧ Below w.heap.size w w' :=
  (p_Numbers ws A n c w hn hl hd).mono fun e w' hr => by
    rcases hr with ⟨_, h1, h2⟩ | ⟨ns, A, c, h1, _⟩
    · exact ⟨h1, h2⟩
    · rw [h] at h1; cases h1
theorem p_Numbers_some {ws : List (List UInt8)} {ns : List Nat} (h : numsO ws = some ns) (A : Option Addr) (n c : Nat) (w : World) (hn : n ≤ 100000) (hl : ∀ x ∈ ws, x.length ≤ 100000) (hd : Sts w w.heap.size A n ws) :
    Calls Tryz.prog 83 #[.slice A n c, .int .i64 6] w fun e w' => ∃ A1 c1, e = .returned (.tuple #[.slice A1 ns.length c1, .bool true]) ∧ Below w.heap.size w w' ∧ Rd w' w'.heap.size 1 A1 ns.length (numCells ns) ∧ ns.length ≤ c1 ∧ c1 ≤ maxLen ∧ ∀ g, (Value.slice A1 ns.length c1).ownBlock = some g → w.heap.size ≤ g :=
  (p_Numbers ws A n c w hn hl hd).mono fun e w' hr => by
    rcases hr with ⟨h1, _⟩ | ⟨ms, A, c, h1, h2⟩
    · rw [h] at h1; cases h1
    · obtain rfl := Option.some.inj (h1.symm.trans h)
      exact ⟨A, c, h2⟩
/-- The words behind the first one, in a slice's own cells. -/
theorem Sts.tail {w : World} {B b o n : Nat} {w0 : List UInt8} {wt : List (List UInt8)} (h : Sts w B (some ⟨b, o, none⟩) (n + 1) (w0 :: wt)) : Sts w B (some ⟨b, o + 1, none⟩) n wt := by
  have hl := h.len
  obtain ⟨b', o', e, hb, hc⟩ := h.2 (by omega)
  obtain ⟨rfl, rfl⟩ : b = b' ∧ o = o' := by simpa using e
  refine ⟨by simp at hl ⊢; omega, fun _ => ⟨b, o + 1, rfl, hb, fun j u hu => ?_⟩⟩
  have := hc (j + 1) u (by simpa using hu)
  rwa [show o + (j + 1) = o + 1 + j from by omega] at this
theorem Sts.nil {w : World} {B : Nat} {A : Option Addr} : Sts w B A 0 [] := ⟨rfl, fun h => absurd h (by omega)⟩
/-- Nine numbers in a row. -/
theorem nine_cells {w : World} {B : Nat} {A : Option Addr} {ns : List Nat} (hl : ns.length = 9) (h : Rd w B 1 A ns.length (numCells ns)) : ∃ b o, A = some ⟨b, o, none⟩ ∧ b < B ∧ (∀ j, j < 9 → w.cell? ⟨b, o + j, none⟩ = some (.int .i64 (ns.getD j 0 : Nat))) := by
  obtain ⟨b, o, e, hb, hc⟩ := h.2 (by omega)
  refine ⟨b, o, e, hb, fun j hj => hc j _ ?_⟩
  unfold numCells
  rw [List.getElem?_map, List.getElem?_eq_getElem (by omega), List.getD_eq_getElem?_getD, List.getElem?_eq_getElem (by omega)]
  rfl

end Go.Proofs.YtikioiblaoimkaaGreatDoor
