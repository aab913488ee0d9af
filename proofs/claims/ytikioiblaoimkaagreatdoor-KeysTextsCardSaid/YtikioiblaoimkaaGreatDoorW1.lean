import Derived.Test.YtikioiblaoimkaaGreatDoorU8
import Derived.Test.YtikioiblaoimkaaGreatDoorU5
import Derived.Test.YtikioiblaoimkaaGreatDoorA1
set_option linter.unusedVariables false
set_option linter.unusedSimpArgs false

/- strconv.AppendInt, Phrase and Line. -/
namespace Go.Proofs.YtikioiblaoimkaaGreatDoor
open Go.RowKit Go.Shelf

/-- The table that the numerals read, in whatever world grows out of this one. -/
def TabW (w : World) : Prop := Lib.TabBelow Tryz.prog w.heap.size w "internal/strconv.uint64pow10" .u64 Lib.pow10Tab
theorem TabW.ext {w w' : World} (h : TabW w) (hb : Below w.heap.size w w') : TabW w' := fun w2 h2 => h w2 (hb.trans (h2.mono hb.size))
theorem TabW.here {w : World} (h : TabW w) : Lib.TabIs Tryz.prog w "internal/strconv.uint64pow10" .u64 Lib.pow10Tab := h w (Below.refl _ _)

theorem l_AppendUint (u : Nat) (hu : u ≤ 100000) (B n : Nat) (sv : Value) (xs : List Value) (w : World) (h : OwnG w B 5 sv n xs) (hB : B ≤ w.heap.size) (hn : n ≤ 100000)
    (htab : Lib.TabIs Tryz.prog w "internal/strconv.uint64pow10" .u64 Lib.pow10Tab) :
    Calls Tryz.prog 137 #[sv, .int .u64 u, .int .i64 10] w fun e w' => ∃ v', e = .returned v' ∧ OwnG w' B 5 v' (n + (Lib.decDigits u).length) (xs ++ Lib.byteCells (Lib.decDigits u)) ∧ Below B w w' := by
  by_cases h1 : u < 100
  · exact l_AppendUint_lo u h1 B n sv xs w h hB hn
  · exact l_AppendUint_hi u (by omega) hu B n sv xs w h hB hn htab

set_option maxHeartbeats 4000000 in
set_option maxRecDepth 100000 in
theorem l_AppendInt0 (u : Nat) (hu : u ≤ 100000) (B n : Nat) (sv : Value) (xs : List Value) (w : World) (h : OwnG w B 5 sv n xs) (hB : B ≤ w.heap.size) (hn : n ≤ 100000)
    (htab : Lib.TabIs Tryz.prog w "internal/strconv.uint64pow10" .u64 Lib.pow10Tab) :
    Calls Tryz.prog 111 #[sv, .int .i64 u, .int .i64 10] w fun e w' => ∃ v', e = .returned v' ∧ OwnG w' B 5 v' (n + (Lib.decDigits u).length) (xs ++ Lib.byteCells (Lib.decDigits u)) ∧ Below B w w' := by
  have HA := Lib.hid (l_AppendUint u hu B n sv xs w h hB hn htab)
  have hw : IntKind.u64.wrap (u : Int) = (u : Int) := IntWalk.u64_in _ (by omega)
  have h0 : ¬ (u : Int) < 0 := by omega
  clear h htab
  go_enter Tryz.func111, Tryz.ntmps111
  go_wp2_with (go_at_call 137; refine HA.out.mono ?_; rintro e w1 ⟨v1, rfl, h1, hb1⟩)
  go_ret
  exact ⟨v1, rfl, h1, hb1⟩

set_option maxHeartbeats 4000000 in
set_option maxRecDepth 100000 in
theorem l_AppendInt (u : Nat) (hu : u ≤ 100000) (B n : Nat) (sv : Value) (xs : List Value) (w : World) (h : OwnG w B 5 sv n xs) (hB : B ≤ w.heap.size) (hn : n ≤ 100000)
    (htab : Lib.TabIs Tryz.prog w "internal/strconv.uint64pow10" .u64 Lib.pow10Tab) :
    Calls Tryz.prog 75 #[sv, .int .i64 u, .int .i64 10] w fun e w' => ∃ v', e = .returned v' ∧ OwnG w' B 5 v' (n + (Lib.decDigits u).length) (xs ++ Lib.byteCells (Lib.decDigits u)) ∧ Below B w w' := by
  have HA := Lib.hid (l_AppendInt0 u hu B n sv xs w h hB hn htab)
  clear h htab
  go_enter Tryz.func75, Tryz.ntmps75
  go_wp2_with (go_at_call 111; refine HA.out.mono ?_; rintro e w1 ⟨v1, rfl, h1, hb1⟩)
  go_ret
  exact ⟨v1, rfl, h1, hb1⟩
theorem l_AppendInt_i (x : Int) (h0 : 0 ≤ x) (hx : x ≤ 100000) (B n : Nat) (sv : Value) (xs : List Value) (w : World) (h : OwnG w B 5 sv n xs) (hB : B ≤ w.heap.size) (hn : n ≤ 100000)
    (htab : Lib.TabIs Tryz.prog w "internal/strconv.uint64pow10" .u64 Lib.pow10Tab) :
    Calls Tryz.prog 75 #[sv, .int .i64 x, .int .i64 10] w fun e w' => ∃ v', e = .returned v' ∧ OwnG w' B 5 v' (n + (Lib.decDigits x.toNat).length) (xs ++ Lib.byteCells (Lib.decDigits x.toNat)) ∧ Below B w w' := by
  have h := l_AppendInt x.toNat (by omega) B n sv xs w h hB hn htab
  rw [show ((x.toNat : Nat) : Int) = x from by omega] at h
  exact h

set_option maxRecDepth 100000 in
set_option maxHeartbeats 4000000 in
theorem p_Phrase (l : List Int) (A : Option Addr) (n c : Nat) (w : World) (hn : n ≤ 100) (hl : ∀ x ∈ l, 0 ≤ x ∧ x ≤ 100000) (hd : Is w w.heap.size A n l) (ht : TabW w) :
    Calls Tryz.prog 36 #[.string ⟨deedW.toArray⟩, .slice A n c] w fun e w' => e = .returned (.string ⟨(deedW ++ numsT l).toArray⟩) ∧ Below w.heap.size w w' := by
  obtain ⟨i0, hi, hz0, hz1, hz2⟩ := info_parts infoByte
  have hlen := hd.len
  have HD := Lib.hid hd
  have HL := Lib.hid hlen
  have HV := Lib.hid hl
  have HT := Lib.hid ht
  clear hd hlen hl ht
  obtain ⟨w0, hw0⟩ : ∃ w0 : ByteArray, ⟨deedW.toArray⟩ = w0 := ⟨_, rfl⟩
  rw [hw0]
  obtain ⟨cp, hcv, hown0⟩ := conv_own w0 w (by rw [← hw0, ba_size]; decide)
  have hsz : w0.size = 4 := by rw [← hw0, ba_size]; rfl
  have hsc : Lib.strCells w0 = Lib.byteCells deedW := by rw [← hw0]; rfl
  rw [hsz] at hcv hown0
  have hbb : Below w.heap.size w (Lib.bytesWorld w 5 w0) := below_bytes w _ w0
  obtain ⟨wb, hwb⟩ : ∃ wb, Lib.bytesWorld w 5 w0 = wb := ⟨_, rfl⟩
  rw [hwb] at hcv hown0 hbb
  rw [hsc] at hown0
  have HO := Lib.hid hown0
  have HB := Lib.hid hbb
  clear hwb hw0 hsz hsc hown0 hbb
  go_enter Tryz.func36, Tryz.ntmps36
  go_wp2_with fail
  go_loopw [5, 12] (fun v i wr => ∃ (k m : Nat), k ≤ n ∧ i = .int .i64 k ∧ m = (deedW ++ numsT (l.take k)).length ∧ OwnG wr w.heap.size 5 v m (Lib.byteCells (deedW ++ numsT (l.take k))) ∧ Below w.heap.size w wr) (fun _ i _ => n - (intOf i).toNat)
  case atStart => exact ⟨0, 4, by omega, rfl, rfl, by simpa [numsT] using HO.out, HB.out⟩
  case round =>
    obtain ⟨k, m, hk, rfl, hm, hown, hB⟩ := hrel
    have hms : m ≤ 4 + 7 * k := by
      rw [hm, List.length_append]
      have h1 := numsT_len (l.take k) fun x hx => HV.out x (List.mem_of_mem_take hx)
      have h2 : (l.take k).length ≤ k := List.length_take_le _ _
      have h3 : deedW.length = 4 := rfl
      omega
    have HM := Lib.hid hm
    clear hm
    have hs0 : w.heap.size ≤ wr.heap.size := hB.size
    by_cases hlt : k < n
    · have hDk := Is.ext HD.out hB (Nat.le_refl _)
      obtain ⟨b, o, x, rfl, hb, hx, hc0⟩ := hDk.at_ hlt
      have hxv := HV.out x (List.mem_of_getElem? hx)
      have hx0 := hxv.1
      have hx1 := hxv.2
      have HX := Lib.hid (numsT_snoc l k x hx hx0)
      have HB2 := Lib.hid hB
      have HO2 := Lib.hid hown
      clear hx hxv hDk hB
      have hOA : OwnG (wr.alloc (.cells #[.int .u8 32] 5)) w.heap.size 5 u5 m (Lib.byteCells (deedW ++ numsT (l.take k))) := hown.ext ((Below.refl _ _).alloc (Nat.le_refl _) _)
      clear hown
      go_wp2_with (at_builtin; refine wpList_appendG rfl (.tmp 16) (.tmp 17) 33 rfl i0 Tryz.underlying33 hi hz0 hz1 hz2 rfl hOA ⟨wr.heap.size, 0, none⟩ 1 1 [.int .u8 32] rfl rfl ?c1 ?c2 ?c3 ?c4 ?_; rotate_left 4; intro v' w2 hown2 hgrow2; refine Hid.out ?_)
      case c1 => intro j u hj; match j, hj with | 0, hj => simp at hj; subst hj; simp [Addr.add]
      case c2 => simp [Value.oneCell']
      case c3 => omega
      case c4 => simp; omega
      refine Lib.hid ?_
      have hB2 : Below w.heap.size w w2 := OwnG.below (HB2.out.alloc hs0 _) hOA (by simp; omega) hgrow2
      have hs2 : w.heap.size ≤ w2.heap.size := hB2.size
      have HA := Lib.hid (l_AppendInt_i x hx0 hx1 w.heap.size (m + 1) v' _ w2 hown2 hs2 (by omega) (HT.out.ext hB2).here)
      have HB3 := Lib.hid hB2
      clear hown2 hgrow2 hB2 hOA
      go_wp2_with (go_at_call 75; refine HA.out.mono ?_; rintro e w3 ⟨v3, rfl, h3, hb3⟩)
      go_roundw
      case rel =>
        refine ⟨k + 1, _, by omega, by go_num, rfl, ?_, HB3.out.trans hb3⟩
        have e1 : Lib.byteCells (deedW ++ numsT (l.take k)) ++ [Value.int .u8 32] ++ Lib.byteCells (Lib.decDigits x.toNat) = Lib.byteCells (deedW ++ numsT (l.take (k + 1))) := by
          rw [HX.out]
          simp [Lib.byteCells]
        have e2 : m + 1 + (Lib.decDigits x.toNat).length = (deedW ++ numsT (l.take (k + 1))).length := by
          rw [HX.out, HM.out]
          simp
          omega
        rw [e1, e2] at h3
        exact h3
      case measure => simp [intOf]; omega
    · have hkn : k = n := by omega
      have HA : Hid (l.take k = l) := by show _ = _; exact List.take_of_length_le (by have := HL.out; omega)
      clear hkn
      obtain ⟨L, hL⟩ : ∃ L, deedW ++ numsT l = L := ⟨_, rfl⟩
      rw [HA.out, hL] at HM hown
      have hm := HM.out
      subst hm
      obtain ⟨g, cap, rfl, hg, hcl⟩ := hown.cells
      have hcv2 := run_convert_bytes_back (P := Tryz.prog) wr 33 9 5 ⟨g, 0, none⟩ cap L Tryz.underlying33 Tryz.underlying5 Tryz.underlying9 (fun j hj => hcl j _ (by simp [Lib.byteCells, hj]))
      clear hcl HA HM
      have HLL := Lib.hid hL
      clear hL
      go_wp2
      go_ret
      exact ⟨by rw [HLL.out]; rfl, hB⟩

set_option maxRecDepth 100000 in
set_option maxHeartbeats 4000000 in
theorem p_Line (l : List Int) (A : Option Addr) (n c : Nat) (w : World) (hn : n ≤ 100) (hl : ∀ x ∈ l, 0 ≤ x ∧ x ≤ 100000) (hd : Is w w.heap.size A n l) (ht : TabW w) :
    Calls Tryz.prog 12 #[.string ⟨deedW.toArray⟩, .slice A n c] w fun e w' => e = .returned (.string ⟨(deedW ++ numsT l ++ [10]).toArray⟩) ∧ Below w.heap.size w w' := by
  have hlen := hd.len
  have hp := p_Phrase l A n c w hn hl hd ht
  obtain ⟨y, hy⟩ : ∃ y : ByteArray, ⟨(deedW ++ numsT l).toArray⟩ = y := ⟨_, rfl⟩
  have hys : y.size ≤ 4 + 7 * n := by
    rw [← hy, ba_size, List.length_append, ← hlen]
    have h1 := numsT_len l hl
    have h3 : deedW.length = 4 := rfl
    omega
  have HE : Hid (y ++ (⟨#[10]⟩ : ByteArray) = ⟨(deedW ++ numsT l ++ [10]).toArray⟩) := by show _ = _; rw [← hy, show (⟨#[10]⟩ : ByteArray) = ⟨([10] : List UInt8).toArray⟩ from rfl, ba_append]
  have hbig : y.size + (⟨#[10]⟩ : ByteArray).size ≤ 9223372036854775807 := by
    have : (⟨#[10]⟩ : ByteArray).size = 1 := rfl
    omega
  rw [hy] at hp
  have HP := Lib.hid hp
  obtain ⟨w0, hw0⟩ : ∃ w0 : ByteArray, ⟨deedW.toArray⟩ = w0 := ⟨_, rfl⟩
  rw [hw0] at HP ⊢
  clear hp hy hl hd ht hlen hw0
  go_enter Tryz.func12, Tryz.ntmps12
  go_wp2_with (go_at_call 36; refine HP.out.mono ?_; rintro e w1 ⟨rfl, hb1⟩)
  go_ret
  exact ⟨by rw [← HE.out]; rfl, hb1⟩

end Go.Proofs.YtikioiblaoimkaaGreatDoor

/- Print of the program. -/
namespace Go.Proofs.YtikioiblaoimkaaGreatDoor
open Go.RowKit Go.Shelf

theorem rowB_ext {W W' : World} {base size n : Nat} {e : TypeId} {v : Value} {xs : List Value} (h : W.ownsRow base e size v n xs) (hb : Below W.heap.size W W') : W'.ownsRow base e size v n xs := by
  refine ⟨h.1, h.2.imp id ?_⟩
  rintro ⟨g, cap, cur, hv, hB, hg, r⟩
  exact ⟨g, cap, cur, hv, hB, (hb.block g (Array.getElem?_eq_some_iff.1 hg).1).trans hg, r⟩
theorem bldAt_ext {W W' : World} {T e : TypeId} {B b : Nat} {p : Value} {bs : List Value} (h : Lib.BuilderAt T e B b p bs W) (hb : Below W.heap.size W W') : Lib.BuilderAt T e B b p bs W' := by
  obtain ⟨h1, v, h2, h3, h4⟩ := h
  exact ⟨h1, v, (hb.block b (Array.getElem?_eq_some_iff.1 h2).1).trans h2, rowB_ext h3 hb, h4⟩
theorem bld_ext {W W' : World} {T e : TypeId} {B b : Nat} {bs : List Value} (h : Lib.IsBuilder T e B b bs W) (hb : Below W.heap.size W W') : Lib.IsBuilder T e B b bs W' := h.imp (fun x => bldAt_ext x hb) fun x => bldAt_ext x hb
theorem l_WriteString (B b : Nat) (bs : List Value) (s : ByteArray) (w : World) (h : Lib.IsBuilder 35 5 B b bs w) (hlen : bs.length + s.size ≤ 140737488355328) (hBw : B ≤ w.heap.size) :
    Calls Tryz.prog 11 #[.pointer (some ⟨b, 0, none⟩), .string s] w fun e w' => e = .returned (.tuple #[.int .i64 s.size, .nilIface]) ∧ (Lib.BuilderAt 35 5 B b (.pointer (some ⟨b, 0, none⟩)) (bs ++ Lib.strCells s) w' ∧ Below B w w') := Any.Builder_WriteString Tryz.lays166 Tryz.Builder_Extra_166 B b bs s w h hlen hBw
theorem l_String (B b : Nat) (l : List UInt8) (w : World) (h : Lib.IsBuilder 35 5 B b (Lib.byteCells l) w) (hBw : B ≤ w.heap.size) :
    Calls Tryz.prog 13 #[.pointer (some ⟨b, 0, none⟩)] w fun e w' => e = .returned (.string ⟨l.toArray⟩) ∧ Below B w w' := Any.Builder_String_any Tryz.lays169 Tryz.Builder_Extra_169 B b l w h hBw

set_option maxRecDepth 10000 in
set_option maxHeartbeats 2000000 in
theorem p_Print (ds : List Deed) (A : Option Addr) (n c : Nat) (w : World) (hn : n ≤ 9223372036854775807) (hd : Ds w w.heap.size A n ds) (ht : TabW w) :
    Calls Tryz.prog 4 #[.slice A n c] w fun e w' => e = .returned (prtV ds) ∧ Below w.heap.size w w' := by
  have hlen := hd.len
  have hck := p_check ds A n c w hn hd
  have HD := Lib.hid hd
  have HL := Lib.hid hlen
  have HT := Lib.hid ht
  clear hd hlen ht
  by_cases hk : checkB ds = true
  · have HV : Hid (prtV ds = .tuple #[.string ⟨(printT ds).toArray⟩, .int .i64 0]) := by show _ = _; rw [prtV, if_pos hk]
    have HO := Lib.hid (okAt_ok hk)
    have hn60 : n ≤ 60 := by
      unfold checkB at hk
      rw [Bool.and_eq_true] at hk
      have h1 := hk.1
      have h2 := HL.out
      simp at h1
      omega
    rw [hk] at hck
    have HC := Lib.hid hck
    clear hck hk hn
    go_enter Tryz.func4, Tryz.ntmps4
    go_wp2_with (go_at_call 10; refine HC.out.mono ?_; rintro e w1 ⟨rfl, hb1⟩)
    go_loopw [15] (fun i wr => ∃ (k : Nat), k ≤ n ∧ i = .int .i64 k ∧ Lib.IsBuilder 35 5 w1.heap.size w1.heap.size (Lib.byteCells (printT (ds.take k))) wr ∧ Below w1.heap.size w1 wr) (fun i _ => n - (intOf i).toNat)
    case atStart => exact ⟨0, by omega, rfl, Lib.fresh_isBuilder _ _ _, (Below.refl _ _).alloc (Nat.le_refl _) _⟩
    case round =>
      obtain ⟨k, hk, rfl, hbld, hB1⟩ := hrel
      have hB : Below w.heap.size w wr := Below.then_ hb1 hB1
      have hs0 : w.heap.size ≤ wr.heap.size := hB.size
      have hs1 : w1.heap.size ≤ wr.heap.size := hB1.size
      have hsz : (Lib.byteCells (printT (ds.take k))).length ≤ 68 * k := by
        rw [Lib.byteCells_length]
        have h1 := print_len (ds.take k) fun x hx => HO.out x (List.mem_of_mem_take hx)
        have h2 : (ds.take k).length ≤ k := List.length_take_le _ _
        omega
      by_cases hlt : k < n
      · have hDk := HD.out.ext hB (Nat.le_refl _)
        obtain ⟨b, o, d, rfl, hb, hdk, hat⟩ := hDk.at_ hlt
        have hdo := HO.out d (List.mem_of_getElem? hdk)
        have HX := Lib.hid (printT_snoc ds k d hdk)
        have HN := Lib.hid (d.bounds hdo)
        clear hDk hdk
        obtain ⟨a0, a1, a2, a3, a4, a5, a6, a7, a8⟩ := hat
        obtain ⟨rt, hrt⟩ : ∃ rt : ByteArray, ⟨(deedW ++ numsT d.nums ++ [10]).toArray⟩ = rt := ⟨_, rfl⟩
        have hrs : rt.size ≤ 68 := by rw [← hrt, ba_size, List.length_append]; have h1 := rowT_len hdo; unfold rowT at h1; simp only [List.length_cons, List.length_nil]; omega
        have hr : ∀ W : World, TabW W → Is W W.heap.size (some ⟨wr.heap.size + 1, 0, none⟩) 9 d.nums → Calls Tryz.prog 12 #[.string ⟨deedW.toArray⟩, .slice (some ⟨wr.heap.size + 1, 0, none⟩) 9 9] W fun e w' => e = .returned (.string rt) ∧ Below W.heap.size W w' := fun W hT hI => by
          have h := p_Line d.nums _ 9 9 W (by decide) HN.out hI hT
          rw [hrt] at h
          exact h
        have HR := Lib.hid hr
        have HBL := Lib.hid hbld
        have HE : Hid (Lib.byteCells (printT (ds.take k)) ++ Lib.strCells rt = Lib.byteCells (printT (ds.take (k + 1)))) := by
          show _ = _
          rw [HX.out, ← hrt, Lib.strCells_eq]
          simp [Lib.byteCells, rowT]
        have HB := Lib.hid hB
        have HB1 := Lib.hid hB1
        have hI := nums_row (wr.alloc (.cells #[.int .i64 d.par, .int .i64 d.no, .int .i64 d.kind, .int .i64 d.lock, .int .i64 d.person, .int .i64 d.lo, .int .i64 d.hi, .int .i64 d.known, .int .i64 d.til] 41)) d
        have HI := Lib.hid hI
        clear hrt hr hB hB1 hI hdo hbld
        go_wp2_with (go_at_call 12; refine (HR.out _ (HT.out.ext (by have := HB.out; (repeat' (first | with_reducible exact Below.refl _ _ | with_reducible assumption | with_reducible refine Below.alloc ?_ ?_ _ | with_reducible refine Below.setCell ?_ ?_ _ | with_reducible refine Below.drew ?_ | (simp; done) | (simp; omega) | omega)))) (by simpa using HI.out)).mono ?_; rintro e w2 ⟨rfl, hb2⟩)
        have hBa : Below wr.heap.size wr w2 := Below.then_ (W := (wr.alloc (.cells #[.int .i64 d.par, .int .i64 d.no, .int .i64 d.kind, .int .i64 d.lock, .int .i64 d.person, .int .i64 d.lo, .int .i64 d.hi, .int .i64 d.known, .int .i64 d.til] 41)).alloc (.cells #[.int .i64 d.par, .int .i64 d.no, .int .i64 d.kind, .int .i64 d.lock, .int .i64 d.person, .int .i64 d.lo, .int .i64 d.hi, .int .i64 d.known, .int .i64 d.til] 3)) (by (repeat' (first | with_reducible exact Below.refl _ _ | with_reducible assumption | with_reducible refine Below.alloc ?_ ?_ _ | with_reducible refine Below.setCell ?_ ?_ _ | with_reducible refine Below.drew ?_ | (simp; done) | (simp; omega) | omega))) hb2
        have hs2 := hBa.size
        have HW := Lib.hid (l_WriteString w1.heap.size w1.heap.size _ rt w2 (bld_ext HBL.out hBa) (by omega) (by omega))
        have HBa := Lib.hid hBa
        clear hBa hb2
        go_wp2_with (go_at_call 11; refine HW.out.mono ?_; rintro e w3 ⟨rfl, h3, hb3⟩)
        rw [HE.out] at h3
        go_roundw
        case rel =>
          (repeat apply Exists.intro)
          refine ⟨⟨k + 1, by omega, by go_num, Or.inr h3, (Below.then_ HB1.out HBa.out).trans hb3⟩, ?_⟩
          rfl
        case measure => simp [intOf]; omega
      · have hkn : k = n := by omega
        have HA : Hid (ds.take k = ds) := by show _ = _; exact List.take_of_length_le (by have := HL.out; omega)
        rw [HA.out] at hbld
        have HS := Lib.hid (l_String w1.heap.size w1.heap.size (printT ds) wr hbld hs1)
        clear hkn hbld hsz
        go_wp2_with (go_at_call 13; refine HS.out.mono ?_; rintro e w2 ⟨rfl, hb2⟩)
        refine bodyPost_ret (v := .tuple #[.string ⟨(printT ds).toArray⟩, .int .i64 0]) (by simp [results, Tryz.f4, go_sem]) rfl ⟨HV.out ▸ rfl, hB.trans (hb2.mono hb1.size)⟩
  · have HV : Hid (prtV ds = .tuple #[.string ⟨#[]⟩, .int .i64 11]) := by show _ = _; rw [prtV, if_neg hk]
    have hkf : checkB ds = false := by simpa using hk
    rw [hkf] at hck
    have HC := Lib.hid hck
    clear hck hk hkf
    go_enter Tryz.func4, Tryz.ntmps4
    go_wp2_with (go_at_call 10; refine HC.out.mono ?_; rintro e w1 ⟨rfl, hb1⟩)
    refine bodyPost_ret (v := .tuple #[.string ⟨#[]⟩, .int .i64 11]) (by simp [results, Tryz.f4, go_sem, errI]) rfl ⟨by rw [HV.out], hb1⟩

end Go.Proofs.YtikioiblaoimkaaGreatDoor
