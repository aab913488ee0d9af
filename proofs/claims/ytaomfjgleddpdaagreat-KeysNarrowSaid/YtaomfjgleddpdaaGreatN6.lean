import Derived.Test.YtaomfjgleddpdaaGreatN5
set_option linter.unusedVariables false
set_option linter.unusedSimpArgs false

/- KeysJoins: its plain facts. -/
namespace Go.Proofs.YtaomfjgleddpdaaGreat
open Go.RowKit
attribute [local go_sem] Oper.semAt_some

theorem findK_gone {L : List Deed} {d : Deed} (h : ∀ x ∈ L, kOf x ≠ kOf d) : findK d L = none := List.find?_eq_none.2 fun x hx => by simpa using h x hx
theorem joinL_new (ms : List Deed) : ∀ L : List Deed, KN (L ++ ms) → (∀ d ∈ ms, d.okB = true) → (L ++ ms).length ≤ 60 → joinL L ms = (0, srtD (L ++ ms)) := by
  induction ms with
  | nil =>
    intro L _ _ hl
    rw [List.append_nil] at *
    rw [joinL, if_neg (by omega)]
  | cons d ms ih =>
    intro L hk ho hl
    have h1 : findK d L = none := findK_gone fun x hx => (List.pairwise_append.1 hk).2.2 x hx d (by simp)
    rw [joinL, if_pos (ho d (by simp)), h1]
    have e : L ++ d :: ms = (L ++ [d]) ++ ms := by simp
    rw [e] at hk hl ⊢
    exact ih (L ++ [d]) hk (fun x hx => ho x (List.mem_cons_of_mem _ hx)) hl
theorem joinL_old (ms : List Deed) {L : List Deed} (hk : KN L) (hl : L.length ≤ 60) (h : ∀ d ∈ ms, d ∈ L ∧ d.okB = true) : joinL L ms = (0, srtD L) := by
  induction ms with
  | nil => rw [joinL, if_neg (by omega)]
  | cons d ms ih =>
    rw [joinL, if_pos (h d (by simp)).2, findK_some hk (h d (by simp)).1 rfl]
    simp only [if_true]
    exact ih fun x hx => h x (List.mem_cons_of_mem _ hx)
theorem checkB_sdok {l : List Deed} (hs : SD l) (ho : ∀ d ∈ l, d.okB = true) (hl : l.length ≤ 60) : checkB l = true := by
  unfold checkB
  rw [Bool.and_eq_true, List.all_eq_true]
  refine ⟨by simpa using hl, fun i hi => ?_⟩
  have hi2 : i < l.length := by simpa using hi
  obtain ⟨d, hd⟩ : ∃ d, l[i]? = some d := ⟨_, List.getElem?_eq_getElem hi2⟩
  unfold okAt
  rw [hd]
  simp only [ho d (List.mem_of_getElem? hd), Bool.true_and]
  cases i with
  | zero => rfl
  | succ j =>
    obtain ⟨e, he⟩ : ∃ e, l[j]? = some e := ⟨_, List.getElem?_eq_getElem (by omega)⟩
    simp only [he]
    have h1 := List.pairwise_iff_getElem.1 hs j (j + 1) (by omega) hi2 (by omega)
    rw [(List.getElem?_eq_some_iff.1 he).2, (List.getElem?_eq_some_iff.1 hd).2] at h1
    exact h1
theorem srt_check {L : List Deed} (hk : KN L) (ho : ∀ d ∈ L, d.okB = true) (hl : L.length ≤ 60) : checkB (srtD L) = true :=
  checkB_sdok (srtD_sd hk) (fun d hd => ho d (srt_mem.1 hd)) (by rw [srt_len]; exact hl)
theorem join_new {L ms : List Deed} (hc : checkB L = true) (hk : KN (L ++ ms)) (ho : ∀ d ∈ ms, d.okB = true) (hl : (L ++ ms).length ≤ 60) : joinD L ms = srtD (L ++ ms) ∧ joinE L ms = 0 := by
  unfold joinD joinE
  rw [if_pos hc, if_pos hc, joinL_new ms L hk ho hl]
  exact ⟨rfl, rfl⟩
theorem srt_srt_app {X Y l : List Deed} (hs : SD l) (hp : (X ++ Y).Perm l) : srtD (srtD X ++ Y) = l := by
  have hp2 : (srtD X ++ Y).Perm l := ((srtD_perm X).append_right Y).trans hp
  exact SD.eq (srtD_sd (KN.perm hs.kn hp2.symm)) hs ((srtD_perm _).trans hp2)
/-- Parts of a list that is valid, joined. -/
theorem join_parts {X Y l : List Deed} (hc : checkB l = true) (hp : (X ++ Y).Perm l) : joinD (srtD X) Y = l ∧ joinE (srtD X) Y = 0 := by
  have hs := checkB_sd hc
  have hk := KN.perm hs.kn hp.symm
  have hkx : KN X := (List.pairwise_append.1 hk).1
  have ho := checkB_ok hc
  have hl := check_60 hc
  have hlen : X.length + Y.length = l.length := by rw [← hp.length_eq]; simp
  have hox : ∀ d ∈ X, d.okB = true := fun d hd => ho d (hp.mem_iff.1 (by simp [hd]))
  have hoy : ∀ d ∈ Y, d.okB = true := fun d hd => ho d (hp.mem_iff.1 (by simp [hd]))
  have hp2 : (srtD X ++ Y).Perm l := ((srtD_perm X).append_right Y).trans hp
  obtain ⟨h1, h2⟩ := join_new (srt_check hkx hox (by omega)) (KN.perm hs.kn hp2.symm) hoy (by rw [hp2.length_eq]; exact hl)
  exact ⟨h1.trans (srt_srt_app hs hp), h2⟩
theorem join_some {X Y l : List Deed} (hc : checkB l = true) (hp : (X ++ Y).Perm l) : joinD [] Y = srtD Y ∧ joinE [] Y = 0 := by
  have hs := checkB_sd hc
  have hk := KN.perm hs.kn hp.symm
  have hl := check_60 hc
  have hlen : X.length + Y.length = l.length := by rw [← hp.length_eq]; simp
  have h := join_new (L := []) (ms := Y) rfl (by rw [List.nil_append]; exact (List.pairwise_append.1 hk).2.1) (fun d hd => checkB_ok hc d (hp.mem_iff.1 (by simp [hd]))) (by simp; omega)
  simpa using h
theorem join_again {X Y l : List Deed} (hc : checkB l = true) (hp : (X ++ Y).Perm l) : joinD l Y = l ∧ joinE l Y = 0 := by
  have hs := checkB_sd hc
  have h := joinL_old Y hs.kn (check_60 hc) fun d hd => ⟨hp.mem_iff.1 (by simp [hd]), checkB_ok hc d (hp.mem_iff.1 (by simp [hd]))⟩
  unfold joinD joinE
  rw [if_pos hc, if_pos hc, h]
  exact ⟨srt_self hs, rfl⟩
theorem join_step {X Y l : List Deed} (hc : checkB l = true) (hp : (X ++ Y).Perm l) {j : Nat} {d : Deed} (hj : X[j]? = some d) : joinD (srtD (X.take j)) [d] = srtD (X.take (j + 1)) ∧ joinE (srtD (X.take j)) [d] = 0 := by
  have hs := checkB_sd hc
  have hk := KN.perm hs.kn hp.symm
  have hkx : KN X := (List.pairwise_append.1 hk).1
  have ho := checkB_ok hc
  have hl := check_60 hc
  have hlen : X.length + Y.length = l.length := by rw [← hp.length_eq]; simp
  have hox : ∀ d ∈ X, d.okB = true := fun d hd => ho d (hp.mem_iff.1 (by simp [hd]))
  have hkt : KN (X.take (j + 1)) := hkx.sublist (List.take_sublist _ _)
  have hsn := take_snoc_some hj
  rw [hsn] at hkt ⊢
  have hjx : j < X.length := (List.getElem?_eq_some_iff.1 hj).1
  have hp2 : (srtD (X.take j) ++ [d]).Perm (X.take j ++ [d]) := (srtD_perm _).append_right _
  obtain ⟨h1, h2⟩ := join_new (srt_check (List.pairwise_append.1 hkt).1 (fun x hx => hox x (List.mem_of_mem_take hx)) (by rw [List.length_take]; omega)) (KN.perm hkt hp2.symm) (fun x hx => by simp at hx; subst hx; exact hox _ (List.mem_of_getElem? hj)) (by rw [List.length_append, srt_len, List.length_take]; simp; omega)
  refine ⟨h1.trans ?_, h2⟩
  exact SD.eq (srtD_sd (KN.perm hkt hp2.symm)) (srtD_sd hkt) ((srtD_perm _).trans (hp2.trans (srtD_perm _).symm))

theorem own_one (w : World) (t : TypeId) (size : Nat) (cs : Array Value) (hs : cs.size = size) : (w.alloc (.cells cs t)).ownsRow w.heap.size t size (.slice (some ⟨w.heap.size, 0, none⟩) 1 1) 1 cs.toList :=
  ⟨by simp [hs], .inr ⟨w.heap.size, 1, cs, rfl, Nat.le_refl _, World.alloc_heap_new w _, Nat.le_refl _, by decide, by simp [hs], by rw [List.take_of_length_le (by simp [hs])]⟩⟩
theorem Rd.keptA {w w' : World} {B size n : Nat} {A : Option Addr} {xs : List Value} {row : Option Nat} (h : Rd w B size A n xs) (hg : w.grownBy w' row) (hB : B ≤ w.heap.size) (hne : ∀ a, A = some a → row ≠ some a.block) : Rd w' w'.heap.size size A n xs := by
  refine ⟨h.1, fun h0 => ?_⟩
  obtain ⟨b, o, e, hb, hc⟩ := h.2 h0
  have hlt : b < w.heap.size := Nat.lt_of_lt_of_le hb hB
  refine ⟨b, o, e, Nat.lt_of_lt_of_le hlt hg.size, fun j u hj => ?_⟩
  rw [World.cell?_of_block (w := w) (a := ⟨b, o + j, none⟩) (hg.block b hlt fun e2 => hne _ e e2.symm)]
  exact hc j u hj
theorem p_Join_v (ds ms zs : List Deed) (err : Int) (A B : Option Addr) (n c m d : Nat) (w : World) (hn : n ≤ 9223372036854775807) (hm : m ≤ 9223372036854775807) (hd : Ds w w.heap.size A n ds) (he : Ds w w.heap.size B m ms) (hz : joinD ds ms = zs) (hr : joinE ds ms = err) :
    Calls Tryz.prog 24 #[.slice A n c, .slice B m d] w (RetJ zs err w) := hz ▸ hr ▸ p_Join sortNone ds ms A B n c m d w hn hm hd he
theorem r_Join_v (ds ms zs : List Deed) (err : Int) (A B : Option Addr) (n c m d : Nat) (w : World) (hn : n ≤ 9223372036854775807) (hm : m ≤ 9223372036854775807) (hd : Ds w w.heap.size A n ds) (he : Ds w w.heap.size B m ms) (hz : joinD ds ms = zs) (hr : joinE ds ms = err) :
    Calls Tryz.prog 25 #[.slice A n c, .slice B m d] w (RetJ zs err w) := hz ▸ hr ▸ r_Join ds ms A B n c m d w hn hm hd he

end Go.Proofs.YtaomfjgleddpdaaGreat

/- KeysJoins: the walk. -/
namespace Go.Proofs.YtaomfjgleddpdaaGreat
open Go.RowKit
attribute [local go_sem] Oper.semAt_some

theorem r_mod_b (a m v : Int) (w : World) (hm : 0 < m) (hm2 : m ≤ 1000000) (h : a % m = v) :
    Calls Tryz.prog 26 #[.int .i64 a, .int .i64 m] w fun e w' => e = .returned (.int .i64 v) ∧ Below w.heap.size w w' :=
  (r_mod a m w hm hm2).mono fun _ _ ⟨he, hw⟩ => ⟨by rw [he, h], hw ▸ Below.refl _ _⟩

set_option maxRecDepth 100000 in
set_option maxHeartbeats 1000000 in
theorem w_KeysJoins (ds ms : List Deed) (c0 c1 : Int) (A B : Option Addr) (n c m d : Nat) (w : World) (hn : n ≤ 9223372036854775807) (hm : m ≤ 9223372036854775807) (hd : Ds w w.heap.size A n ds) (he : Ds w w.heap.size B m ms) :
    Calls Tryz.prog 4 #[.slice A n c, .slice B m d, .agg #[.int .i64 c0, .int .i64 c1]] w fun e w' => e = .returned (.bool true) ∧ Below w.heap.size w w' := by
  obtain ⟨i0, hi, hz0, hz1, hz2⟩ := info_parts infoDeed
  have HD := Lib.hid hd
  have HL := Lib.hid hd.len
  have HM := Lib.hid he
  clear hd he
  obtain ⟨zs, hzs⟩ : ∃ z, joinD ds ms = z := ⟨_, rfl⟩
  obtain ⟨ze, hze⟩ : ∃ z, joinE ds ms = z := ⟨_, rfl⟩
  obtain ⟨ce, hce⟩ : ∃ z, errI (checkB ds) 11 = z := ⟨_, rfl⟩
  have HZ := Lib.hid hzs
  have HZE := Lib.hid hze
  have HCE := Lib.hid hce
  have hzl : zs.length ≤ 1000000 := by have := joinD_len ds ms; rw [hzs] at this; omega
  clear hzs hze hce
  go_enter Tryz.func4, Tryz.ntmps4
  go_wp2_with fail
  refine (p_Join_v ds ms zs ze _ _ _ _ _ _ _ hn hm (HD.out.now (by (repeat' (first | with_reducible exact Below.refl _ _ | with_reducible assumption | with_reducible refine Below.alloc ?_ ?_ _ | with_reducible refine Below.setCell ?_ ?_ _ | with_reducible refine Below.drew ?_ | (simp; done) | (simp; omega) | omega)))) (HM.out.now (by (repeat' (first | with_reducible exact Below.refl _ _ | with_reducible assumption | with_reducible refine Below.alloc ?_ ?_ _ | with_reducible refine Below.setCell ?_ ?_ _ | with_reducible refine Below.drew ?_ | (simp; done) | (simp; omega) | omega)))) HZ.out HZE.out).mono ?_
  rintro e w1 ⟨A1, d1, rfl, hb1, hi1, _⟩
  have HBC1 := Lib.hid ((BoxA.new w 41 #[.int .i64 c0, .int .i64 c1]).ext hb1)
  have HB1 : Below w.heap.size w w1 := Below.then_ (by (repeat' (first | with_reducible exact Below.refl _ _ | with_reducible assumption | with_reducible refine Below.alloc ?_ ?_ _ | with_reducible refine Below.setCell ?_ ?_ _ | with_reducible refine Below.drew ?_ | (simp; done) | (simp; omega) | omega))) hb1
  have HI1 := Lib.hid hi1
  clear hb1 hi1
  go_wp2_with fail
  refine (r_Join_v ds ms zs ze _ _ _ _ _ _ _ hn hm (HD.out.now HB1) (HM.out.now HB1) HZ.out HZE.out).mono ?_
  rintro e w2 ⟨A2, d2, rfl, hb2, hi2, _⟩
  have HBC2 := Lib.hid (HBC1.out.ext hb2)
  have HB2 : Below w.heap.size w w2 := Below.then_ HB1 hb2
  have HI12 := Lib.hid (HI1.out.now hb2)
  have HI2 := Lib.hid hi2
  clear hb2 hi2 HI1 HBC1
  go_wp2_with fail
  refine (r_sameDeeds zs zs true _ _ _ _ _ _ _ hzl hzl HI12.out HI2.out (by simp)).mono ?_
  rintro e w3 ⟨rfl, hb3⟩
  have HBC3 := Lib.hid (HBC2.out.ext hb3)
  have HB3 : Below w.heap.size w w3 := Below.then_ HB2 hb3
  clear hb3 HI12 HI2 HBC2
  go_wp2_with fail
  refine (r_checkq ds ce _ _ _ _ hn (HD.out.now HB3) HCE.out).mono ?_
  rintro e w4 ⟨rfl, hb4⟩
  have HBC4 := Lib.hid (HBC3.out.ext hb4)
  have HB4 : Below w.heap.size w w4 := Below.then_ HB3 hb4
  clear hb4 HBC3
  cases hck : checkB ds with
  | false =>
    obtain rfl : ce = 11 := by rw [← HCE.out, hck]; rfl
    clear hck
    go_wp2_with fail
    refine (r_sane _).mono ?_
    rintro e w5 ⟨rfl, hb5⟩
    go_wp2_with fail
    go_ret
    exact ⟨rfl, Below.then_ HB4 hb5⟩
  | true =>
    obtain rfl : ce = 0 := by rw [← HCE.out, hck]; rfl
    have HC := Lib.hid hck
    have h60 : n ≤ 60 := by have := check_60 hck; have := HL.out; omega
    clear hck
    have HB4 := Lib.hid HB4
    go_wp2_with fail
    go_loopw [11, 12, 55] (fun vx vy i wr => ∃ (k : Nat) (X Y : List Deed) (Ay : Option Addr) (cy : Nat), k ≤ n ∧ i = .int .i64 k ∧ (X ++ Y).Perm (ds.take k) ∧ vy = .slice Ay Y.length cy ∧ (∀ a, Ay = some a → vx.ownBlock ≠ some a.block ∧ a.block < wr.heap.size) ∧ wr.ownsRow w.heap.size 28 9 vx X.length (deedCells X) ∧ Ds wr wr.heap.size Ay Y.length Y ∧ BoxA wr w.heap.size 41 #[.int .i64 c0, .int .i64 c1] ∧ Below w.heap.size w wr) (fun _ _ i _ => n - (intOf i).toNat)
    case atStart => exact ⟨0, [], [], none, 0, by omega, rfl, by simp, rfl, fun a h => (by cases h), World.ownsRow_nil _ _ _ _, Rd.nil_, HBC4.out, HB4.out⟩
    case round =>
      obtain ⟨k, X, Y, Ay, cy, hk, rfl, hp, rfl, hsep, hox, hry, hbc, hB⟩ := hrel
      obtain ⟨Ax, cx, rfl, hcx⟩ := own_slice hox
      obtain ⟨wo, rfl⟩ : ∃ wo : World, wo = wr := ⟨_, rfl⟩
      have hs0 : w.heap.size ≤ wo.heap.size := hB.size
      have hxy : X.length + Y.length = k := by have h1 := hp.length_eq; rw [List.length_append, List.length_take, HL.out] at h1; omega
      have HP := Lib.hid hp
      have HSP := Lib.hid hsep
      have HOX := Lib.hid hox
      have HRY := Lib.hid hry
      have HBC := Lib.hid hbc
      have HB := Lib.hid hB
      clear hp hsep hox hry hbc hB
      by_cases hlt : k < n
      · obtain ⟨b, o, f, rfl, hb, hdk, hat⟩ := (HD.out.ext HB.out (Nat.le_refl _)).at_ hlt
        have HK := Lib.hid hdk
        clear hdk
        obtain ⟨a0, a1, a2, a3, a4, a5, a6, a7, a8⟩ := hat
        have q0 := HBC.out.cell 0
        have q1 := HBC.out.cell 1
        have g1 : w.heap.size < wo.heap.size + 1 := by omega
        have g2 : w.heap.size < wo.heap.size := HBC.out.lt
        go_wp2_with fail
        obtain ⟨m1, hm1⟩ : ∃ z, c1 % 7 = z := ⟨_, rfl⟩
        have HM1 := Lib.hid hm1
        clear hm1
        refine wp_region_grow (by kernel_rfl) (by kernel_rfl) ?_
        (iterate 5 go_big_quiet_step (fail))
        (go_big_quiet_step ((go_at_call_of 26 (Value.int .i64 7); exact Calls.grow_of (r_mod_b c1 7 m1 _ (by decide) (by decide) HM1.out))))
        (iterate 2 go_big_quiet_step (fail))
        (go_big_quiet_step ((go_at_call_of 26 (Value.int .i64 3); exact Calls.grow_of (r_mod_b _ 3 _ _ (by decide) (by decide) rfl))))
        go_big_quiet_step (fail)
        refine wpQuiet_nil ?_
        rintro w1 ⟨⟨_, hb1⟩, rfl⟩
        try dsimp only at hb1 ⊢
        have HBW := Lib.hid (Below.then_ ((Below.refl wo.heap.size wo).alloc (Nat.le_refl _) (.cells #[.int .i64 f.par, .int .i64 f.no, .int .i64 f.kind, .int .i64 f.lock, .int .i64 f.person, .int .i64 f.lo, .int .i64 f.hi, .int .i64 f.known, .int .i64 f.til] 28)) hb1)
        have HBF := Lib.hid ((BoxA.new wo 28 #[.int .i64 f.par, .int .i64 f.no, .int .i64 f.kind, .int .i64 f.lock, .int .i64 f.person, .int .i64 f.lo, .int .i64 f.hi, .int .i64 f.known, .int .i64 f.til]).ext hb1)
        have HBC1 := Lib.hid (HBC.out.ext HBW.out)
        have HOX1 := Lib.hid (own_ext HOX.out HBW.out)
        have HRY1 := Lib.hid (Ds.now HRY.out HBW.out)
        have HBN := Lib.hid (Below.then_ HB.out HBW.out)
        have hs1 : wo.heap.size < w1.heap.size := HBF.out.lt
        clear hb1 q0 q1 a0 a1 a2 a3 a4 a5 a6 a7 a8
        obtain ⟨x0, x1, x2, x3, x4, x5, x6, x7, x8⟩ := boxa_nine HBF.out
        obtain ⟨wi, rfl⟩ : ∃ wi : World, wi = w1 := ⟨_, rfl⟩
        have hAxlt : ∀ a, Ax = some a → a.block < wo.heap.size := fun a e => by
          obtain ⟨cur, hh⟩ := own_block HOX.out (b := a.block) (by rw [e]; rfl)
          exact block_lt hh
        have HAX := Lib.hid hAxlt
        clear hAxlt
        go_wp2_with (first
          | (at_builtin; refine wpList_append_lies _ rfl (.tmp 70) (.tmp 72) 22 rfl w.heap.size 28 i0 _ 9 72 Tryz.underlying22 hi hz0 hz1 hz2 rfl (by decide) (.slice Ax X.length cx) X.length _ rfl (HOX1.out.alloc _) ⟨wi.heap.size, 0, none⟩ 1 1 [.int .i64 f.par, .int .i64 f.no, .int .i64 f.kind, .int .i64 f.lock, .int .i64 f.person, .int .i64 f.lo, .int .i64 f.hi, .int .i64 f.known, .int .i64 f.til] rfl rfl (World.news_of_block (heap_alloc_new _ _)) (by simp [Value.oneCell']) (by omega) (by unfold maxLen; omega) (by omega) (by simp; omega) _ rfl ?_; intro g cap w2 hown2 hgrow2 hg2 hgl2)
          | (at_builtin; refine wpList_app rfl (.tmp 75) (.tmp 76) 22 rfl (base := wi.heap.size) (B := wi.heap.size) (e := 28) (i := i0) (size := 9) (bytes := 72) Tryz.underlying22 hi hz0 hz1 hz2 rfl (by decide) rfl rfl (n := 1) (xs := [.int .i64 f.par, .int .i64 f.no, .int .i64 f.kind, .int .i64 f.lock, .int .i64 f.person, .int .i64 f.lo, .int .i64 f.hi, .int .i64 f.known, .int .i64 f.til]) (own_one wi 28 9 #[.int .i64 f.par, .int .i64 f.no, .int .i64 f.kind, .int .i64 f.lock, .int .i64 f.person, .int .i64 f.lo, .int .i64 f.hi, .int .i64 f.known, .int .i64 f.til] rfl) (m := Y.length) (news := deedCells Y) (HRY1.out.alloc (Nat.le_refl _) _) (deedCells_one _) (by unfold maxLen; omega) (by omega) (by simp) ?_; intro v2 w2 hown2 hgrow2 hb2))
        · have hne1 : ∀ a, Ay = some a → (Value.slice Ax X.length cx).ownBlock ≠ some a.block := fun a e => (HSP.out a e).1
          refine ⟨⟨k + 1, X ++ [f], Y, Ay, cy, by omega, by go_num, ?_, rfl, fun a e => ⟨fun e2 => ?_, ?_⟩, by rw [deedCells_append, List.length_append]; exact hown2, Rd.keptA (HRY1.out.alloc (Nat.le_refl _) _) hgrow2 (by simp) hne1, (HBC1.out.alloc _).kept hgrow2 ?_, Below.appended HBN.out ((Below.refl _ _).alloc (Nat.le_refl _) _) HOX1.out hgrow2⟩, by simp [intOf]; omega⟩
          · rw [take_snoc_some HK.out, List.append_assoc]
            exact ((List.perm_append_comm (l₁ := [f]) (l₂ := Y)).append_left X).trans (by rw [← List.append_assoc]; exact HP.out.append_right [f])
          · have e3 : g = a.block := Option.some.inj (show some g = some a.block from e2)
            have h4 := (HSP.out a e).2
            rcases hg2 with h | h
            · exact hne1 a e (by rw [h, e3])
            · simp only [World.size_alloc] at h; omega
          · have h4 := (HSP.out a e).2
            have h5 := hgrow2.size
            simp only [World.size_alloc] at h5
            omega
          · intro e2
            obtain ⟨cur, hh⟩ := own_block HOX1.out (b := w.heap.size) e2.symm
            have h6 : wi.heap[w.heap.size]? = _ := HBC1.out
            rw [h6] at hh
            cases hh
        · obtain ⟨A2', c2', rfl, hc2'⟩ := own_slice hown2
          have hB2 : Below wi.heap.size wi w2 := Below.trans ((Below.refl _ _).alloc (Nat.le_refl _) _) hb2
          refine ⟨⟨k + 1, X, f :: Y, A2', c2', by omega, by go_num, ?_, by rw [List.length_cons, Nat.add_comm], fun a e => ⟨fun e2 => ?_, ?_⟩, own_ext HOX1.out hB2, ?_, HBC1.out.ext hB2, Below.then_ HBN.out hB2⟩, by simp [intOf]; omega⟩
          · rw [take_snoc_some HK.out]
            exact List.perm_middle.trans ((List.perm_append_singleton f (X ++ Y)).symm.trans (HP.out.append_right [f]))
          · obtain ⟨a', rfl, e3⟩ : ∃ a', Ax = some a' ∧ a'.block = a.block := by
              cases Ax with
              | none => simp [Value.ownBlock] at e2
              | some a' => exact ⟨a', rfl, by simpa [Value.ownBlock] using e2⟩
            have h4 := HAX.out a' rfl
            have h5 := own_base hown2 (g := a.block) (by rw [e]; rfl)
            omega
          · obtain ⟨cur, hh⟩ := own_block hown2 (b := a.block) (by rw [e]; rfl)
            exact block_lt hh
          · have h6 := Rd.of_own hown2
            show Rd _ _ _ _ _ _
            rw [List.length_cons, Nat.add_comm Y.length 1]
            exact h6
      · obtain rfl : k = n := by omega
        have HPL : Hid ((X ++ Y).Perm ds) := by show List.Perm _ _; have h := HP.out; rwa [List.take_of_length_le (by rw [HL.out]; exact Nat.le_refl _)] at h
        obtain ⟨j1, j2⟩ := join_some HC.out HPL.out
        obtain ⟨j3, j4⟩ := join_parts (X := Y) (Y := X) HC.out (List.perm_append_comm.trans HPL.out)
        obtain ⟨j5, j6⟩ := join_parts HC.out HPL.out
        obtain ⟨j7, j8⟩ := join_again HC.out HPL.out
        have J1 := Lib.hid j1
        have J2 := Lib.hid j2
        have J3 := Lib.hid j3
        have J4 := Lib.hid j4
        have J5 := Lib.hid j5
        have J6 := Lib.hid j6
        have J7 := Lib.hid j7
        have J8 := Lib.hid j8
        have hly : (srtD Y).length ≤ 60 := by rw [srt_len]; omega
        have hlx : (srtD X).length ≤ 60 := by rw [srt_len]; omega
        have hX6 : X.length ≤ 60 := by omega
        have hY6 : Y.length ≤ 60 := by omega
        have hDL : ds.length ≤ 60 := by rw [HL.out]; omega
        have HRX := Lib.hid (show Ds wo wo.heap.size Ax X.length X from Rd.of_own HOX.out)
        clear j1 j2 j3 j4 j5 j6 j7 j8
        go_wp2_with fail
        refine (p_Join_v [] Y (srtD Y) 0 _ _ _ _ _ _ _ (by decide) (by omega) Rd.nil_ HRY.out J1.out J2.out).mono ?_
        rintro e w5 ⟨A5, c5, rfl, hb5, hi5, _⟩
        have HB5 := Lib.hid (Below.then_ HB.out hb5)
        have HRX5 := Lib.hid (HRX.out.now hb5)
        have HRY5 := Lib.hid (HRY.out.now hb5)
        have HI5 := Lib.hid hi5
        clear hb5 hi5
        go_wp2_with fail
        refine (p_Join_v (srtD Y) X ds 0 _ _ _ _ _ _ _ (by omega) (by omega) HI5.out HRX5.out J3.out J4.out).mono ?_
        rintro e w6 ⟨A6, c6, rfl, hb6, hi6, _⟩
        have HB6 := Lib.hid (Below.then_ HB5.out hb6)
        have HRX6 := Lib.hid (HRX5.out.now hb6)
        have HRY6 := Lib.hid (HRY5.out.now hb6)
        have HI6 := Lib.hid hi6
        clear hb6 hi6 HRX5 HRY5 HI5 HB5
        go_wp2_with fail
        go_loopw [19, 92] (fun v i wr => ∃ (j : Nat) (A7 : Option Addr) (c7 : Nat), j ≤ X.length ∧ i = .int .i64 j ∧ v = .slice A7 (srtD (X.take j)).length c7 ∧ Ds wr wr.heap.size A7 (srtD (X.take j)).length (srtD (X.take j)) ∧ Below w6.heap.size w6 wr) (fun _ i _ => X.length - (intOf i).toNat)
        case atStart => exact ⟨0, none, 0, by omega, rfl, rfl, Rd.nil_, Below.refl _ _⟩
        case round =>
          obtain ⟨j, A7, c7, hj, rfl, rfl, hd7, hB7⟩ := hrel
          have HD7 := Lib.hid hd7
          have HB7 := Lib.hid hB7
          have hs7 : w6.heap.size ≤ wr.heap.size := hB7.size
          have hl7 : (srtD (X.take j)).length ≤ 60 := by rw [srt_len, List.length_take]; omega
          clear hd7 hB7
          by_cases hlj : j < X.length
          · obtain ⟨b8, o8, g, rfl, hb8, hg, hat⟩ := (HRX6.out.ext HB7.out (Nat.le_refl _)).at_ hlj
            obtain ⟨s1, s2⟩ := join_step HC.out HPL.out hg
            have S1 := Lib.hid s1
            have S2 := Lib.hid s2
            clear hg s1 s2
            obtain ⟨p0, p1, p2, p3, p4, p5, p6, p7, p8⟩ := hat
            go_wp2_with fail
            refine (p_Add_v (srtD (X.take j)) g (srtD (X.take (j + 1))) 0 _ _ _ _ (by omega) (HD7.out.now (by (repeat' (first | with_reducible exact Below.refl _ _ | with_reducible assumption | with_reducible refine Below.alloc ?_ ?_ _ | with_reducible refine Below.setCell ?_ ?_ _ | with_reducible refine Below.drew ?_ | (simp; done) | (simp; omega) | omega)))) S1.out S2.out).mono ?_
            rintro e w8 ⟨A8, c8, rfl, hb8', hi8, _⟩
            have HB8 := Lib.hid (Below.then_ (HB7.out.alloc hs7 (.cells #[.int .i64 g.par, .int .i64 g.no, .int .i64 g.kind, .int .i64 g.lock, .int .i64 g.person, .int .i64 g.lo, .int .i64 g.hi, .int .i64 g.known, .int .i64 g.til] 28)) hb8')
            have HI8 := Lib.hid hi8
            clear hb8' hi8
            go_wp2_with fail
            go_roundw
            case rel => exact ⟨j + 1, A8, c8, by omega, by go_num, rfl, HI8.out, HB8.out⟩
            case measure => simp [intOf]; omega
          · obtain rfl : j = X.length := by omega
            have htk : X.take X.length = X := List.take_length
            rw [htk] at HD7 hl7
            rw [htk]
            have HRY7 := Lib.hid (HRY6.out.now HB7.out)
            have HI67 := Lib.hid (HI6.out.now HB7.out)
            have HB7w := Lib.hid (Below.then_ HB6.out HB7.out)
            clear htk HRX6 HRY6 HI6
            go_wp2_with fail
            refine (p_Join_v (srtD X) Y ds 0 _ _ _ _ _ _ _ (by omega) (by omega) HD7.out HRY7.out J5.out J6.out).mono ?_
            rintro e w9 ⟨A9, c9, rfl, hb9, hi9, _⟩
            have HB9 := Lib.hid (Below.then_ HB7w.out hb9)
            have HRY9 := Lib.hid (HRY7.out.now hb9)
            have HI69 := Lib.hid (HI67.out.now hb9)
            have HI9 := Lib.hid hi9
            clear hb9 hi9 HRY7 HI67 HD7
            go_wp2_with fail
            refine (p_Join_v ds Y ds 0 _ _ _ _ _ _ _ hn (by omega) (HD.out.now HB9.out) HRY9.out J7.out J8.out).mono ?_
            rintro e wa ⟨Aa, ca, rfl, hba, hia, _⟩
            have HBa := Lib.hid (Below.then_ HB9.out hba)
            have HI6a := Lib.hid (HI69.out.now hba)
            have HI9a := Lib.hid (HI9.out.now hba)
            have HIa := Lib.hid hia
            clear hba hia HI69 HI9 HRY9
            go_wp2_with fail
            refine (r_sameDeeds ds ds true _ _ _ _ _ _ _ (by omega) (by omega) HI6a.out (HD.out.now HBa.out) (by simp)).mono ?_
            rintro e wb ⟨rfl, hbb⟩
            have HBb := Lib.hid (Below.then_ HBa.out hbb)
            have HI9b := Lib.hid (HI9a.out.now hbb)
            have HIb := Lib.hid (HIa.out.now hbb)
            clear hbb HI9a HIa HI6a
            go_wp2_with fail
            refine (r_sameDeeds ds ds true _ _ _ _ _ _ _ (by omega) (by omega) HI9b.out (HD.out.now HBb.out) (by simp)).mono ?_
            rintro e wc ⟨rfl, hbc⟩
            have HBc := Lib.hid (Below.then_ HBb.out hbc)
            have HIc := Lib.hid (HIb.out.now hbc)
            clear hbc HI9b HIb
            go_wp2_with fail
            refine (r_sameDeeds ds ds true _ _ _ _ _ _ _ (by omega) (by omega) HIc.out (HD.out.now HBc.out) (by simp)).mono ?_
            rintro e wd ⟨rfl, hbd⟩
            have HBd := Lib.hid (Below.then_ HBc.out hbd)
            clear hbd HIc
            go_wp2_with fail
            refine (r_sane _).mono ?_
            rintro e we ⟨rfl, hbe⟩
            go_wp2_with fail
            go_ret
            exact ⟨rfl, Below.then_ HBd.out hbe⟩

end Go.Proofs.YtaomfjgleddpdaaGreat
