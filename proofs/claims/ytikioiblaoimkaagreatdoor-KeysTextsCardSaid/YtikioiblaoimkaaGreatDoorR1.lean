import Derived.Test.YtikioiblaoimkaaGreatDoorA2
import Derived.ProofKit
import Derived.OpenShut
import Derived.ShutString
import Derived.ChangeOld
import Derived.Below
import Derived.Deep.Slices
import Derived.Deep.Fields
set_option linter.unusedVariables false
set_option linter.unusedSimpArgs false

/- Slices of deeds, of items, of numbers that come in, as data: what cells they have. -/
namespace Go.Proofs.YtikioiblaoimkaaGreatDoor
open Go.ChangeShapes Go.WideShapes Go.ChangeAt Go.RowKit Go.Deep

theorem own : ownKnob Tryz.prog.godebug = none := by kernel_rfl
theorem laidOut : laidOutB Tryz.prog = true := by kernel_rfl
theorem c1_int : Tryz.prog.cellsOf 3 = 1 := by kernel_rfl
theorem c2_item : Tryz.prog.cellsOf 37 = 2 := by kernel_rfl
theorem c2_range : Tryz.prog.cellsOf 39 = 2 := by kernel_rfl
theorem c9_deed : Tryz.prog.cellsOf 41 = 9 := by kernel_rfl

theorem len2 {α : Type} : ∀ {l : List α}, l.length = 2 → ∃ a b, l = [a, b]
  | [a, b], _ => ⟨a, b, rfl⟩
theorem len9 {α : Type} : ∀ {l : List α}, l.length = 9 → ∃ a b c d e f g h i, l = [a, b, c, d, e, f, g, h, i]
  | [a, b, c, d, e, f, g, h, i], _ => ⟨a, b, c, d, e, f, g, h, i, rfl⟩
theorem flat_one (l : List Int) : (l.flatMap fun p : Int => [Value.int .i64 p]) = l.map fun p => .int .i64 p := by
  induction l with
  | nil => rfl
  | cons a l ih => rw [List.flatMap_cons, List.map_cons, ih]; rfl

section
variable {H : Type} {enc : TypeId × Value → H} {w : World} {base : Nat} {spare : Nat → Bool} {held : Bool} {fuel : Nat} {cs : List Value} {x : DataW H × List MemPlace}
theorem int_of (h : DataW.trod enc Tryz.prog w base spare held fuel 3 cs = some x) : ∃ a, cs = [.int .i64 a] := by
  obtain ⟨n, h1, _⟩ := DataW.trod_int Tryz.underlying3 h
  exact ⟨n, h1⟩
theorem some_at {α : Type} {l : List α} {i n : Nat} (hl : l.length = n) (hi : i < n) : ∃ y, l[i]? = some y := ⟨_, List.getElem?_eq_getElem (by omega)⟩
theorem item_of (h : DataW.trod enc Tryz.prog w base spare held fuel 37 cs = some x) : ∃ a b, cs = [.int .i64 a, .int .i64 b] := by
  obtain ⟨xs, n, _, _, hl, hx, hf⟩ := DataW.trod_struct Tryz.underlying37 h
  rw [c2_item] at hl
  obtain ⟨y0, e0⟩ := some_at hx (i := 0) (by decide)
  obtain ⟨y1, e1⟩ := some_at hx (i := 1) (by decide)
  obtain ⟨c0, c1, rfl⟩ := len2 hl
  obtain ⟨a, ha⟩ := int_of ((hf 0 _ rfl).trans e0)
  obtain ⟨b, hb⟩ := int_of ((hf 1 _ rfl).trans e1)
  simp [c1_int] at ha hb
  exact ⟨a, b, by rw [ha, hb]⟩
theorem range_of (h : DataW.trod enc Tryz.prog w base spare held fuel 39 cs = some x) : ∃ a b, cs = [.int .i64 a, .int .i64 b] := by
  obtain ⟨xs, n, _, _, hl, hx, hf⟩ := DataW.trod_struct Tryz.underlying39 h
  rw [c2_range] at hl
  obtain ⟨y0, e0⟩ := some_at hx (i := 0) (by decide)
  obtain ⟨y1, e1⟩ := some_at hx (i := 1) (by decide)
  obtain ⟨c0, c1, rfl⟩ := len2 hl
  obtain ⟨a, ha⟩ := int_of ((hf 0 _ rfl).trans e0)
  obtain ⟨b, hb⟩ := int_of ((hf 1 _ rfl).trans e1)
  simp [c1_int] at ha hb
  exact ⟨a, b, by rw [ha, hb]⟩
theorem deed_of (h : DataW.trod enc Tryz.prog w base spare held fuel 41 cs = some x) : ∃ d : Deed, cs = [.int .i64 d.par, .int .i64 d.no, .int .i64 d.kind, .int .i64 d.lock, .int .i64 d.person, .int .i64 d.lo, .int .i64 d.hi, .int .i64 d.known, .int .i64 d.til] := by
  obtain ⟨xs, n, _, _, hl, hx, hf⟩ := DataW.trod_struct Tryz.underlying41 h
  rw [c9_deed] at hl
  obtain ⟨y0, e0⟩ := some_at hx (i := 0) (by decide)
  obtain ⟨y1, e1⟩ := some_at hx (i := 1) (by decide)
  obtain ⟨y2, e2⟩ := some_at hx (i := 2) (by decide)
  obtain ⟨y3, e3⟩ := some_at hx (i := 3) (by decide)
  obtain ⟨y4, e4⟩ := some_at hx (i := 4) (by decide)
  obtain ⟨y5, e5⟩ := some_at hx (i := 5) (by decide)
  obtain ⟨y6, e6⟩ := some_at hx (i := 6) (by decide)
  obtain ⟨c0, c1, c2, c3, c4, c5, c6, c7, c8, rfl⟩ := len9 hl
  obtain ⟨a0, a1, h0⟩ := item_of ((hf 0 _ rfl).trans e0)
  obtain ⟨a2, h2⟩ := int_of ((hf 1 _ rfl).trans e1)
  obtain ⟨a3, h3⟩ := int_of ((hf 2 _ rfl).trans e2)
  obtain ⟨a4, h4⟩ := int_of ((hf 3 _ rfl).trans e3)
  obtain ⟨a5, a6, h5⟩ := range_of ((hf 4 _ rfl).trans e4)
  obtain ⟨a7, h7⟩ := int_of ((hf 5 _ rfl).trans e5)
  obtain ⟨a8, h8⟩ := int_of ((hf 6 _ rfl).trans e6)
  simp [c1_int, c2_item, c2_range] at h0 h2 h3 h4 h5 h7 h8
  exact ⟨⟨a0, a1, a2, a3, a4, a5, a6, a7, a8⟩, by simp [h0, h2, h3, h4, h5, h7, h8]⟩

/-- The elements of a slice that came in, element by element: their cells in a row. -/
theorem row_of {α : Type} {e t : TypeId} {size : Nat} (enc' : α → List Value) (hk : ∀ a, (enc' a).length = size) (hsz : 0 < size) (ht : Tryz.prog.underlying t = some (.slice e)) (hC : Tryz.prog.cellsOf e = size)
    (hel : ∀ (fuel : Nat) (cs : List Value) (x : DataW H × List MemPlace), DataW.trod enc Tryz.prog w base spare held fuel e cs = some x → ∃ a, cs = enc' a)
    {A : Option Addr} {n c : Nat} (h : DataW.trod enc Tryz.prog w base spare held fuel t (Value.slice A n c).cells.toList = some x) :
    n ≤ c ∧ c ≤ maxLen ∧ ∃ l : List α, l.length = n ∧ Rd w w.heap.size size A n (l.flatMap enc') := by
  rcases open_slice ht h with ⟨hcs, _⟩ | ⟨a, len, cap, m, nn, D, Pl, hcs, _, hl, hm, hmm, _, hi⟩
  · simp [Value.cells] at hcs
    obtain ⟨rfl, rfl, rfl⟩ := hcs
    exact ⟨Nat.le_refl _, Nat.zero_le _, [], rfl, by simp, fun h0 => absurd h0 (by omega)⟩
  · simp [Value.cells] at hcs
    obtain ⟨rfl, rfl, rfl⟩ := hcs
    refine ⟨hl, hm, ?_⟩
    have hlm : n ≤ m := by rw [hmm]; split <;> omega
    have hex : ∀ i, i < n → ∃ y : α, ∀ j u, (enc' y)[j]? = some u → w.cell? (a.add (i * size + j)) = some u := fun i hin => by
      obtain ⟨cs', hc, ht'⟩ := hi i (by omega)
      rw [hC] at hc
      obtain ⟨_, hcl, hat⟩ := World.cells?_some hc
      obtain ⟨y, rfl⟩ := hel _ _ _ ht'
      refine ⟨y, fun j u hj => ?_⟩
      have hjl : j < size := by have := (List.getElem?_eq_some_iff.1 hj).1; rw [hk] at this; exact this
      rw [← Go.Deep.add_add, hat j hjl, hj]
    have hlist : ∀ k, k ≤ n → ∃ l : List α, l.length = k ∧ ∀ i y, l[i]? = some y → ∀ j u, (enc' y)[j]? = some u → w.cell? (a.add (i * size + j)) = some u := by
      intro k
      induction k with
      | zero => exact fun _ => ⟨[], rfl, fun i y hy => by simp at hy⟩
      | succ k ih =>
        intro hkn
        obtain ⟨l, hll, hlf⟩ := ih (by omega)
        obtain ⟨y, hy⟩ := hex k (by omega)
        refine ⟨l ++ [y], by simp [hll], fun i z hz => ?_⟩
        rw [List.getElem?_append] at hz
        split at hz
        · exact hlf i z hz
        · rename_i hik
          have hi0 : i - l.length = 0 := by have := (List.getElem?_eq_some_iff.1 hz).1; simp at this; omega
          rw [hi0] at hz
          obtain rfl : y = z := by simpa using hz
          obtain rfl : i = k := by omega
          exact hy
    obtain ⟨l, hll, hlf⟩ := hlist n (Nat.le_refl _)
    have hfl : (l.flatMap enc').length = n * size := by
      rw [← hll]
      clear hlf hll hlist
      induction l with
      | nil => simp
      | cons y l ih => simp only [List.flatMap_cons, List.length_append, hk, ih, List.length_cons]; rw [Nat.succ_mul]; omega
    have hget : ∀ t u, (l.flatMap enc')[t]? = some u → w.cell? (a.add t) = some u := fun t u ht => by
      have hlt : t < n * size := by have := (List.getElem?_eq_some_iff.1 ht).1; omega
      have key : ∀ (l : List α) (t : Nat), (l.flatMap enc')[t]? = (l[t / size]?).bind fun y => (enc' y)[t % size]? := by
        intro l
        induction l with
        | nil => intro t; simp
        | cons y l ih =>
          intro t
          rw [List.flatMap_cons, List.getElem?_append, hk]
          by_cases h1 : t < size
          · rw [if_pos h1, Nat.div_eq_of_lt h1, Nat.mod_eq_of_lt h1]
            rfl
          · rw [if_neg h1, ih]
            have e1 : t / size = (t - size) / size + 1 := by
              rw [Nat.div_eq t size, if_pos ⟨hsz, by omega⟩]
            have e2 : t % size = (t - size) % size := Nat.mod_eq_sub_mod (by omega)
            rw [e1, e2, List.getElem?_cons_succ]
      rw [key] at ht
      obtain ⟨y, hy, hu⟩ := Option.bind_eq_some_iff.1 ht
      have := hlf _ y hy _ u hu
      have e3 : t / size * size + t % size = t := by rw [Nat.mul_comm]; exact Nat.div_add_mod t size
      rwa [e3] at this
    refine ⟨l, hll, hfl, fun h0 => ?_⟩
    obtain ⟨u0, hu0⟩ : ∃ u, (l.flatMap enc')[0]? = some u := ⟨_, List.getElem?_eq_getElem (by rw [hfl]; exact Nat.mul_pos h0 hsz)⟩
    obtain ⟨b, off, spot⟩ := a
    have hspot : spot = none := by simpa [Addr.add] using World.cell?_spot (hget 0 u0 hu0)
    subst hspot
    have hc0 := hget 0 u0 hu0
    rw [Go.WideShapes.add_plain] at hc0
    refine ⟨b, off, rfl, ?_, fun j u hj => by rw [← Go.WideShapes.add_plain]; exact hget j u hj⟩
    exact block_lt_of_cell hc0
theorem deeds_of {A : Option Addr} {n c : Nat} (h : DataW.trod enc Tryz.prog w base spare held fuel 22 (Value.slice A n c).cells.toList = some x) : n ≤ c ∧ c ≤ maxLen ∧ ∃ ds : List Deed, Ds w w.heap.size A n ds := by
  obtain ⟨h1, h2, l, _, h3⟩ := row_of (fun d : Deed => [.int .i64 d.par, .int .i64 d.no, .int .i64 d.kind, .int .i64 d.lock, .int .i64 d.person, .int .i64 d.lo, .int .i64 d.hi, .int .i64 d.known, .int .i64 d.til]) (fun _ => rfl) (by decide) Tryz.underlying22 c9_deed (fun _ _ _ h => deed_of h) h
  exact ⟨h1, h2, l, h3⟩
theorem items_of {A : Option Addr} {n c : Nat} (h : DataW.trod enc Tryz.prog w base spare held fuel 69 (Value.slice A n c).cells.toList = some x) : n ≤ c ∧ c ≤ maxLen ∧ ∃ l : List (Int × Int), Its w w.heap.size A n l := by
  obtain ⟨h1, h2, l, _, h3⟩ := row_of (fun p : Int × Int => [.int .i64 p.1, .int .i64 p.2]) (fun _ => rfl) (by decide) Tryz.underlying69 c2_item (fun _ _ _ h => by obtain ⟨a, b, e⟩ := item_of h; exact ⟨(a, b), e⟩) h
  exact ⟨h1, h2, l, h3⟩
theorem ints_of {A : Option Addr} {n c : Nat} (h : DataW.trod enc Tryz.prog w base spare held fuel 49 (Value.slice A n c).cells.toList = some x) : n ≤ c ∧ c ≤ maxLen ∧ ∃ l : List Int, Is w w.heap.size A n l := by
  obtain ⟨h1, h2, l, _, h3⟩ := row_of (fun p : Int => [.int .i64 p]) (fun _ => rfl) (by decide) Tryz.underlying49 c1_int (fun _ _ _ h => int_of h) h
  rw [flat_one] at h3
  exact ⟨h1, h2, l, h3⟩
end

end Go.Proofs.YtikioiblaoimkaaGreatDoor
