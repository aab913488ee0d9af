import Derived.Test.YtikioiblaoimkaaGreatDoorV2
import Derived.Test.YtikioiblaoimkaaGreatDoorW1
import Derived.Test.YtikioiblaoimkaaGreatDoorM2
import Derived.Test.YtikioiblaoimkaaGreatDoorB9
set_option linter.unusedVariables false
set_option linter.unusedSimpArgs false

/- KeysTexts. -/
namespace Go.Proofs.YtikioiblaoimkaaGreatDoor
open Go.RowKit

theorem parsL_len (t : List UInt8) : (parsL t).length ≤ 8001 := by
  by_cases h8 : 8000 < t.length
  · rw [(pars_long h8).2.2]; simp
  · unfold parsL
    split
    · have h1 := List.length_filterMap_le lineO (parsD t)
      have h2 := pars_len t
      omega
    · simp

set_option maxRecDepth 100000 in
set_option maxHeartbeats 4000000 in
theorem w_KeysTexts (ds : List Deed) (t : ByteArray) (A : Option Addr) (n c : Nat) (w : World) (hn : n ≤ 9223372036854775807) (ht : t.size ≤ 9223372036854775807) (hd : Ds w w.heap.size A n ds) (hT : TabW w) (hM : MaxW w) :
    Calls Tryz.prog 3 #[.slice A n c, .string t] w fun e w' => e = .returned (.bool true) ∧ Below w.heap.size w w' := by
  have hlen := hd.len
  have hp1 := p_Print ds A n c w hn hd hT
  have hp2 : ∀ W : World, Ds W W.heap.size A n ds → Calls Tryz.prog 5 #[.slice A n c] W fun e w' => e = .returned (prtV ds) ∧ Below W.heap.size W w' := fun W h => r_Print ds A n c W hn h
  have hq1 : ∀ W : World, MaxW W → Calls Tryz.prog 6 #[.string t] W (RetPrs t.data.toList W) := fun W h => p_Parse t W ht h
  have hq2 : ∀ W : World, Calls Tryz.prog 7 #[.string t] W (RetPrs t.data.toList W) := fun W => r_Parse t W ht
  have hpl := parsL_len t.data.toList
  obtain ⟨l, hl⟩ : ∃ l, parsL t.data.toList = l := ⟨_, rfl⟩
  obtain ⟨pn, hpn⟩ : ∃ pn, parsN t.data.toList = pn := ⟨_, rfl⟩
  obtain ⟨pe, hpe⟩ : ∃ pe, parsE t.data.toList = pe := ⟨_, rfl⟩
  unfold RetPrs at hq1 hq2
  rw [hl, hpn, hpe] at hq1 hq2
  rw [hl] at hpl
  obtain ⟨m, hm⟩ : ∃ m, l.length = m := ⟨_, rfl⟩
  rw [hm] at hq1 hq2 hpl
  have HQ1 := Lib.hid hq1
  have HQ2 := Lib.hid hq2
  have HD := Lib.hid hd
  have HM := Lib.hid hM
  have HS : Hid (∀ (B C : Option Addr) (b c : Nat) (W : World), Ds W W.heap.size B m l → Ds W W.heap.size C m l → Calls Tryz.prog 8 #[.slice B m b, .slice C m c] W fun e w' => e = .returned (.bool true) ∧ Below W.heap.size W w') :=
    Lib.hid fun B C b c W h1 h2 => r_sameDeeds l l true B C m b m c W (by omega) (by omega) h1 h2 (by simp)
  clear hl hpn hpe hq1 hq2 hm hM hd hT
  by_cases hk : checkB ds = true
  · obtain ⟨y, hy⟩ : ∃ y : ByteArray, ⟨(printT ds).toArray⟩ = y := ⟨_, rfl⟩
    have hpv : prtV ds = .tuple #[.string y, .int .i64 0] := by rw [prtV, if_pos hk, hy]
    rw [hpv] at hp1 hp2
    have hn60 : n ≤ 60 := by
      unfold checkB at hk
      rw [Bool.and_eq_true] at hk
      have h1 := hk.1
      simp at h1
      omega
    obtain ⟨r1, r2, r3, r4⟩ := parse_print hk
    have hyd : y.data.toList = printT ds := by rw [← hy]
    have hq3 : ∀ W : World, MaxW W → Calls Tryz.prog 6 #[.string y] W fun e w' => ∃ B b, e = .returned (.tuple #[.slice B n b, .int .i64 0, .int .i64 0]) ∧ Below W.heap.size W w' ∧ Ds w' w'.heap.size B n ds := fun W h => by
      have h2 := p_Parse y W (by rw [size_len, hyd]; omega) h
      rw [hyd] at h2
      refine h2.mono fun e w' h3 => ?_
      unfold RetPrs at h3
      rw [r1, r2, r3, hlen] at h3
      obtain ⟨B, b, g1, g2, g3, _⟩ := h3
      exact ⟨B, b, g1, g2, g3⟩
    have HQ3 := Lib.hid hq3
    have HP1 := Lib.hid hp1
    have HP2 := Lib.hid hp2
    have HS2 : Hid (∀ (B : Option Addr) (b : Nat) (W : World), Ds W W.heap.size B n ds → Ds W W.heap.size A n ds → Calls Tryz.prog 8 #[.slice B n b, .slice A n c] W fun e w' => e = .returned (.bool true) ∧ Below W.heap.size W w') :=
      Lib.hid fun B b W h1 h2 => r_sameDeeds ds ds true B A n b n c W (by omega) (by omega) h1 h2 (by simp)
    clear hq3 hp1 hp2 r1 r2 r3 r4 hyd hpv hy hk hlen
    go_enter Tryz.func3, Tryz.ntmps3
    go_wp2_with (go_at_call 4; refine HP1.out.mono ?_; rintro e w1 ⟨rfl, hb1⟩; refine Hid.out ?_)
    refine Lib.hid ?_
    have HB1 := Lib.hid hb1
    have HD1 := Lib.hid (HD.out.now hb1)
    clear hb1
    go_wp2_with (go_at_call 5; refine (HP2.out _ HD1.out).mono ?_; rintro e w2 ⟨rfl, hb2⟩; refine Hid.out ?_)
    refine Lib.hid ?_
    have HB2 := Lib.hid (Below.then_ HB1.out hb2)
    clear hb2 HD1 HB1
    go_wp2_with (go_at_call 6; refine (HQ1.out _ (HM.out.ext HB2.out)).mono ?_; rintro e w3 ⟨A3, c3, rfl, hb3, hd3, hc3, hm3⟩; refine Hid.out ?_)
    refine Lib.hid ?_
    have HB3 := Lib.hid (Below.then_ HB2.out hb3)
    have HD3 := Lib.hid hd3
    clear hb3 hd3 HB2
    go_wp2_with (go_at_call 7; refine (HQ2.out _).mono ?_; rintro e w4 ⟨A4, c4, rfl, hb4, hd4, hc4, hm4⟩; refine Hid.out ?_)
    refine Lib.hid ?_
    have HB4 := Lib.hid (Below.then_ HB3.out hb4)
    have HD4 := Lib.hid hd4
    have HE4 := Lib.hid (HD3.out.now hb4)
    clear hb4 hd4 HB3 HD3
    go_wp2_with (go_at_call 8; refine (HS.out _ _ _ _ _ HE4.out HD4.out).mono ?_; rintro e w5 ⟨rfl, hb5⟩; refine Hid.out ?_)
    refine Lib.hid ?_
    have HB5 := Lib.hid (Below.then_ HB4.out hb5)
    clear hb5 HB4 HD4 HE4
    go_wp2_with (go_at_call 6; refine (HQ3.out _ (HM.out.ext HB5.out)).mono ?_; rintro e w6 ⟨A6, c6, rfl, hb6, hd6⟩; refine Hid.out ?_)
    refine Lib.hid ?_
    have HB6 := Lib.hid (Below.then_ HB5.out hb6)
    have HD6 := Lib.hid hd6
    have HE6 := Lib.hid (HD.out.now HB6.out)
    clear hb6 hd6 HB5
    go_wp2_with (go_at_call 8; refine (HS2.out _ _ _ HD6.out HE6.out).mono ?_; rintro e w7 ⟨rfl, hb7⟩; refine Hid.out ?_)
    refine Lib.hid ?_
    have HB7 := Lib.hid (Below.then_ HB6.out hb7)
    clear hb7 HB6 HD6 HE6
    go_wp2_with (go_at_call 9; refine (r_sane _).mono ?_; rintro e w8 ⟨rfl, hb8⟩)
    go_ret
    exact ⟨rfl, Below.then_ HB7.out hb8⟩
  · have hpv : prtV ds = .tuple #[.string ⟨#[]⟩, .int .i64 11] := by rw [prtV, if_neg hk]
    rw [hpv] at hp1 hp2
    have HP1 := Lib.hid hp1
    have HP2 := Lib.hid hp2
    clear hp1 hp2 hpv hk hlen
    go_enter Tryz.func3, Tryz.ntmps3
    go_wp2_with (go_at_call 4; refine HP1.out.mono ?_; rintro e w1 ⟨rfl, hb1⟩; refine Hid.out ?_)
    refine Lib.hid ?_
    have HB1 := Lib.hid hb1
    have HD1 := Lib.hid (HD.out.now hb1)
    clear hb1
    go_wp2_with (go_at_call 5; refine (HP2.out _ HD1.out).mono ?_; rintro e w2 ⟨rfl, hb2⟩; refine Hid.out ?_)
    refine Lib.hid ?_
    have HB2 := Lib.hid (Below.then_ HB1.out hb2)
    clear hb2 HD1 HB1
    go_wp2_with (go_at_call 6; refine (HQ1.out _ (HM.out.ext HB2.out)).mono ?_; rintro e w3 ⟨A3, c3, rfl, hb3, hd3, hc3, hm3⟩; refine Hid.out ?_)
    refine Lib.hid ?_
    have HB3 := Lib.hid (Below.then_ HB2.out hb3)
    have HD3 := Lib.hid hd3
    clear hb3 hd3 HB2
    go_wp2_with (go_at_call 7; refine (HQ2.out _).mono ?_; rintro e w4 ⟨A4, c4, rfl, hb4, hd4, hc4, hm4⟩; refine Hid.out ?_)
    refine Lib.hid ?_
    have HB4 := Lib.hid (Below.then_ HB3.out hb4)
    have HD4 := Lib.hid hd4
    have HE4 := Lib.hid (HD3.out.now hb4)
    clear hb4 hd4 HB3 HD3
    go_wp2_with (go_at_call 8; refine (HS.out _ _ _ _ _ HE4.out HD4.out).mono ?_; rintro e w5 ⟨rfl, hb5⟩; refine Hid.out ?_)
    refine Lib.hid ?_
    have HB5 := Lib.hid (Below.then_ HB4.out hb5)
    clear hb5 HB4 HD4 HE4
    go_wp2_with (go_at_call 9; refine (r_sane _).mono ?_; rintro e w8 ⟨rfl, hb8⟩)
    go_ret
    exact ⟨rfl, Below.then_ HB5.out hb8⟩

end Go.Proofs.YtikioiblaoimkaaGreatDoor
