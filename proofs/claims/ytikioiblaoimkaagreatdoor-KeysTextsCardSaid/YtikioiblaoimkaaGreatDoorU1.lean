import Derived.Lib.SpaceUEq
import Derived.Lib.FieldsP
import Derived.Lib.SplitLaws
import Derived.Lib.IndexBytes
import Derived.Lib.ItoaMem
import Derived.Test.YtikioiblaoimkaaGreatDoorA1
set_option linter.unusedVariables false
set_option linter.unusedSimpArgs false

/- Words and lines of a text, as bytes. -/
namespace Go.Proofs.YtikioiblaoimkaaGreatDoor
open Go Go.Lib

/-- The words of what is left of a line, the bytes of a word that has begun ahead. -/
def wdGo : List UInt8 → List UInt8 → List (List UInt8)
  | cur, [] => if cur = [] then [] else [cur]
  | cur, b :: t => if b = 32 then (if cur = [] then wdGo [] t else cur :: wdGo [] t) else wdGo (cur ++ [b]) t
def wdL (l : List UInt8) : List (List UInt8) := wdGo [] l
/-- The pieces between line feeds. -/
def lnGo : List UInt8 → List UInt8 → List (List UInt8)
  | cur, [] => [cur]
  | cur, b :: t => if b = 10 then cur :: lnGo [] t else lnGo (cur ++ [b]) t
def lnL (l : List UInt8) : List (List UInt8) := lnGo [] l

theorem wd_skip : ∀ (k : Nat) (cur l : List UInt8), k ≤ l.length → (∀ j, j < k → l.getD j 0 ≠ 32) → wdGo cur l = wdGo (cur ++ l.take k) (l.drop k)
  | 0, cur, l, _, _ => by simp
  | k + 1, cur, [], h, _ => by simp at h
  | k + 1, cur, b :: t, h, hz => by
    have h0 : b ≠ 32 := by simpa using hz 0 (by omega)
    have e : wdGo cur (b :: t) = wdGo (cur ++ [b]) t := by simp [wdGo, h0]
    rw [e, wd_skip k (cur ++ [b]) t (by simp at h; omega) (fun j hj => by have := hz (j + 1) (by omega); simpa using this)]
    simp

theorem u8_32 (b : UInt8) : b = 32 ↔ b.toNat = 32 := by
  constructor
  · rintro rfl; rfl
  · intro h; exact UInt8.toNat_inj.1 h

/-- A rune that is a space is the byte 32; at none of another rune's bytes is there one. -/
theorem rune_sp (l : List UInt8) (hne : l ≠ []) (h : (decodeL l).1 = 32) : l.getD 0 0 = 32 ∧ (decodeL l).2 = 1 := by
  have hc := decodeN_cases l.length (l.getD 0 0).toNat (l.getD 1 0).toNat (l.getD 2 0).toNat (l.getD 3 0).toNat
  rw [← decodeL_N] at hc
  rcases hc with ⟨h1, h2⟩ | ⟨_, _, _, h1, h2⟩ | ⟨_, _, _, _, h1, h2⟩ | ⟨h1, _⟩ | h2
  · rw [h2] at h ⊢
    exact ⟨(u8_32 _).2 h, rfl⟩
  · rw [h2] at h; simp only at h; omega
  · rw [h2] at h; simp only at h; omega
  · omega
  · rw [h2] at h; simp at h
theorem rune_nsp (l : List UInt8) (hne : l ≠ []) (hs : (decodeL l).1 ≠ 32) : (decodeL l).2 ≤ l.length ∧ ∀ j, j < (decodeL l).2 → l.getD j 0 ≠ 32 := by
  have hl : 0 < l.length := List.length_pos_iff.2 hne
  have hc := decodeN_conts l.length (l.getD 0 0).toNat (l.getD 1 0).toNat (l.getD 2 0).toNat (l.getD 3 0).toNat
  rw [← decodeL_N] at hc
  obtain ⟨c2, c3, c4, c5⟩ := hc
  have hw := decodeL_width l
  refine ⟨by omega, fun j hj => ?_⟩
  have cont : ∀ b : UInt8, b.toNat / 64 = 2 → b ≠ 32 := by rintro b hb rfl; simp at hb
  match j, hj with
  | 0, _ =>
    intro h0
    apply hs
    rw [decodeL_N, h0, decodeN_ascii _ _ _ _ _ (by decide)]
    rfl
  | 1, hj => exact cont _ (c2 (by omega)).1
  | 2, hj => exact cont _ (c3 (by omega)).1
  | 3, hj => exact cont _ (c4 (by omega)).1
  | j + 4, hj => omega

def isSp32 (x : Nat) : Bool := x == 32

theorem wdGo_nil (cur : List UInt8) : wdGo cur [] = if cur = [] then [] else [cur] := by rw [wdGo]

theorem spans_wd (s : ByteArray) : ∀ (f pos : Nat) (st : Option Nat) (acc : List (Nat × Nat)), s.size ≤ pos + f → pos ≤ s.size → (∀ a, st = some a → a < pos) →
    acc.map (fun p => pieceU s.data.toList p.1 p.2) ++ wdGo (openPiece s.data.toList st pos) (s.data.toList.drop pos) = (closeSpans s (spansFromP isSp32 s f pos st acc)).map (fun p => pieceU s.data.toList p.1 p.2)
  | 0, pos, st, acc, h, hp, hst => by
    obtain rfl : pos = s.size := by omega
    have hd : s.data.toList.drop s.size = [] := List.drop_eq_nil_of_le (by rw [← size_eq]; exact Nat.le_refl _)
    rw [hd, wdGo_nil]
    cases st with
    | none => simp [spansFromP, closeSpans, openPiece]
    | some a =>
      have := pieceU_ne s.data.toList a s.size (hst a rfl) (by rw [← size_eq]; exact Nat.le_refl _)
      simp [spansFromP, closeSpans, openPiece, this]
  | f + 1, pos, st, acc, h, hp, hst => by
    by_cases hlt : pos < s.size
    · have hne : s.data.toList.drop pos ≠ [] := by
        intro h0
        have := congrArg List.length h0
        rw [List.length_drop, ← size_eq] at this
        simp at this
        omega
      have hw := width_pos s pos
      have hwn : pos + (Utf8.decode s pos).2 ≤ s.size := by
        have := decodeN_le_n' (s.size - pos) (s.get! pos).toNat (s.get! (pos + 1)).toNat (s.get! (pos + 2)).toNat (s.get! (pos + 3)).toNat (by omega)
        rw [← decode_at] at this
        omega
      have hdl := decodeL_drop s pos
      simp only [spansFromP, if_pos hlt]
      by_cases hsp : (Utf8.decode s pos).1 = 32
      · obtain ⟨hb, hw1⟩ := rune_sp _ hne (by rw [hdl]; exact hsp)
        rw [hdl] at hw1
        obtain ⟨b, t, hbt⟩ : ∃ b t, s.data.toList.drop pos = b :: t := List.exists_cons_of_ne_nil hne
        rw [hbt] at hb
        obtain rfl : b = 32 := by simpa using hb
        have ht : s.data.toList.drop (pos + 1) = t := by rw [← List.drop_drop, hbt]; rfl
        have hsp' : isSp32 (Utf8.decode s pos).1 = true := by simp [isSp32, hsp]
        simp only [hsp', if_true, hw1] at hwn ⊢
        rw [hbt]
        cases st with
        | none =>
          have ih := spans_wd s f (pos + 1) none acc (by omega) hwn (fun a h => by cases h)
          rw [ht] at ih
          simpa [openPiece, wdGo] using ih
        | some a =>
          have hpn := pieceU_ne s.data.toList a pos (hst a rfl) (by rw [← size_eq]; omega)
          have ih := spans_wd s f (pos + 1) none (acc ++ [(a, pos)]) (by omega) hwn (fun a h => by cases h)
          rw [ht] at ih
          simpa [openPiece, wdGo, hpn] using ih
      · have hsk := rune_nsp _ hne (by rw [hdl]; exact hsp)
        rw [hdl] at hsk
        have hsp' : isSp32 (Utf8.decode s pos).1 = false := by simp [isSp32, hsp]
        simp only [hsp', Bool.false_eq_true, if_false]
        rw [wd_skip _ _ _ hsk.1 hsk.2, List.drop_drop]
        cases st with
        | none =>
          have ih := spans_wd s f (pos + (Utf8.decode s pos).2) (some pos) acc (by omega) hwn (fun a h => by cases h; omega)
          have e : ([] : List UInt8) ++ (s.data.toList.drop pos).take (Utf8.decode s pos).2 = pieceU s.data.toList pos (pos + (Utf8.decode s pos).2) := by
            unfold pieceU
            rw [List.nil_append, Nat.add_sub_cancel_left]
          simp only [openPiece] at ih ⊢
          rw [e]
          exact ih
        | some a =>
          have ih := spans_wd s f (pos + (Utf8.decode s pos).2) (some a) acc (by omega) hwn (fun b h => by cases h; have := hst a rfl; omega)
          simp only [openPiece] at ih ⊢
          rw [pieceU_grow _ _ _ _ (Nat.le_of_lt (hst a rfl))]
          exact ih
    · obtain rfl : pos = s.size := by omega
      have hd : s.data.toList.drop s.size = [] := List.drop_eq_nil_of_le (by rw [← size_eq]; exact Nat.le_refl _)
      rw [hd, wdGo_nil, spansFromP_end isSp32 s _ _ _ _ hlt]
      cases st with
      | none => simp [closeSpans, openPiece]
      | some a =>
        have := pieceU_ne s.data.toList a s.size (hst a rfl) (by rw [← size_eq]; exact Nat.le_refl _)
        simp [closeSpans, openPiece, this]

theorem ba_ext' {a b : ByteArray} (h : a.data.toList = b.data.toList) : a = b := by
  cases a; cases b; simp at h; simp [h]

theorem extract_piece (s : ByteArray) (a b : Nat) : (s.extract a b).data.toList = pieceU s.data.toList a b := by
  unfold pieceU
  exact extract_data s a b

theorem goFields_wd (s : ByteArray) : (goFieldsP isSp32 s) = (wdL s.data.toList).map fun x => (⟨x.toArray⟩ : ByteArray) := by
  have h := spans_wd s s.size 0 none [] (by omega) (by omega) (fun a h => by cases h)
  simp only [List.map_nil, List.nil_append, openPiece, List.drop_zero] at h
  unfold wdL goFieldsP spansOfP
  rw [h, List.map_map]
  apply List.map_congr_left
  intro x _
  apply ba_ext'
  rw [extract_piece]
  simp

/-! ### Lines -/
theorem lnGo_cur : ∀ (l cur : List UInt8), ∃ p ps, lnGo [] l = p :: ps ∧ lnGo cur l = (cur ++ p) :: ps
  | [], cur => ⟨[], [], by simp [lnGo], by simp [lnGo]⟩
  | b :: t, cur => by
    by_cases h : b = 10
    · subst h
      exact ⟨[], lnGo [] t, by simp [lnGo], by simp [lnGo]⟩
    · obtain ⟨p, ps, h1, h2⟩ := lnGo_cur t (cur ++ [b])
      obtain ⟨q, qs, h3, h4⟩ := lnGo_cur t [b]
      rw [h3] at h1
      obtain ⟨rfl, rfl⟩ : q = p ∧ qs = ps := by simpa using h1
      exact ⟨[b] ++ q, qs, by simp only [lnGo, if_neg h]; exact h4, by simp only [lnGo, if_neg h]; rw [h2]; simp⟩
theorem lnL_eq (b : UInt8) (t : List UInt8) : b = 10 → lnL (b :: t) = [] :: lnL t := by
  rintro rfl
  simp [lnL, lnGo]
theorem lnL_ne (b : UInt8) (t : List UInt8) (h : b ≠ 10) : ∃ p ps, lnL t = p :: ps ∧ lnL (b :: t) = (b :: p) :: ps := by
  obtain ⟨p, ps, h1, h2⟩ := lnGo_cur t [b]
  exact ⟨p, ps, h1, by simp only [lnL, lnGo, if_neg h]; exact h2⟩
theorem split_ln : ∀ l : List UInt8, splitK [10] 0 (count l [10]) l = lnL l
  | [] => by rw [count_miss (by simp [index])]; rfl
  | b :: t => by
    have ih := split_ln t
    by_cases h : b = 10
    · subst h
      have hix : index ((10 : UInt8) :: t) [10] = 0 := by rw [index]; simp [List.isPrefixOf]
      rw [count_cons_eq, Nat.add_comm, lnL_eq _ _ rfl]
      simp only [splitK, hix]
      simp [ih]
    · obtain ⟨p, ps, h1, h2⟩ := lnL_ne b t h
      rw [count_cons_ne _ _ _ h, h2]
      rw [h1] at ih
      have hix : index (b :: t) [10] = if index t [10] == -1 then -1 else index t [10] + 1 := by rw [index]; simp [List.isPrefixOf, Ne.symm h]
      cases hk : count t [10] with
      | zero =>
        rw [hk] at ih
        simp only [splitK, List.cons.injEq] at ih ⊢
        obtain ⟨rfl, rfl⟩ := ih
        simp
      | succ j =>
        rw [hk] at ih
        have hm : ¬ index t [10] = -1 := fun e => by rw [count_miss e] at hk; omega
        have hge := index_ge t [10]
        obtain ⟨i, hi⟩ : ∃ i : Nat, index t [10] = i := ⟨(index t [10]).toNat, by omega⟩
        have hix' : index (b :: t) [10] = ((i + 1 : Nat) : Int) := by rw [hix, if_neg (fun e => hm (beq_iff_eq.1 e)), hi]; omega
        simp only [splitK, hix', hi] at ih ⊢
        rw [if_neg (by first | (simp; done) | (simp; omega))] at ih ⊢
        simp only [Int.toNat_natCast, Nat.add_zero, List.length_cons, List.length_nil, Nat.zero_add, List.cons.injEq, List.take_succ_cons, List.drop_succ_cons] at ih ⊢
        obtain ⟨rfl, h4⟩ := ih
        simp [h4]
theorem splitB_ln (s : ByteArray) : splitB ⟨#[10]⟩ 0 (countB s ⟨#[10]⟩) s = (lnL s.data.toList).map fun x => (⟨x.toArray⟩ : ByteArray) := by
  have h := splitB_data ⟨#[10]⟩ 0 (countB s ⟨#[10]⟩) s
  have e : countB s ⟨#[10]⟩ = count s.data.toList [10] := rfl
  rw [e] at h ⊢
  have h2 := h.trans (split_ln s.data.toList)
  rw [← h2, List.map_map]
  have : ((fun x : List UInt8 => (⟨x.toArray⟩ : ByteArray)) ∘ fun x : ByteArray => x.data.toList) = id := by
    funext x
    simp
  rw [this, List.map_id]

/-! ### The reference's loops -/
def wdS (s : List (List UInt8) × List UInt8) (b : UInt8) : List (List UInt8) × List UInt8 :=
  if b = 32 then (if s.2 = [] then s.1 else s.1 ++ [s.2], []) else (s.1, s.2 ++ [b])
theorem wd_fold : ∀ (l : List UInt8) (d : List (List UInt8)) (c : List UInt8), (l.foldl wdS (d, c)).1 ++ (if (l.foldl wdS (d, c)).2 = [] then [] else [(l.foldl wdS (d, c)).2]) = d ++ wdGo c l
  | [], d, c => by by_cases h : c = [] <;> simp [wdGo, h]
  | b :: t, d, c => by
    rw [List.foldl_cons]
    by_cases h : b = 32
    · by_cases hc : c = []
      · simp only [wdS, if_pos h, if_pos hc, wdGo]
        exact wd_fold t d []
      · simp only [wdS, if_pos h, if_neg hc, wdGo]
        rw [wd_fold t (d ++ [c]) []]
        simp
    · simp only [wdS, if_neg h, wdGo]
      exact wd_fold t d (c ++ [b])
def lnS (s : List (List UInt8) × List UInt8) (b : UInt8) : List (List UInt8) × List UInt8 :=
  if b = 10 then (s.1 ++ [s.2], []) else (s.1, s.2 ++ [b])
theorem ln_fold : ∀ (l : List UInt8) (d : List (List UInt8)) (c : List UInt8), (l.foldl lnS (d, c)).1 ++ [(l.foldl lnS (d, c)).2] = d ++ lnGo c l
  | [], d, c => by simp [lnGo]
  | b :: t, d, c => by
    rw [List.foldl_cons]
    by_cases h : b = 10
    · simp only [lnS, if_pos h, lnGo]
      rw [ln_fold t (d ++ [c]) []]
      simp
    · simp only [lnS, if_neg h, lnGo]
      exact ln_fold t d (c ++ [b])

def saysB (l : List UInt8) : Bool := !(wdL l).isEmpty && !(l.head? == some 35)
/-- The lines that say something, with their numbers; the first one's number is i + 1. -/
def spokenL (i : Nat) : List (List UInt8) → List (Nat × List UInt8)
  | [] => []
  | l :: ls => if saysB l then (i + 1, l) :: spokenL (i + 1) ls else spokenL (i + 1) ls
theorem spokenL_app : ∀ (a b : List (List UInt8)) (i : Nat), spokenL i (a ++ b) = spokenL i a ++ spokenL (i + a.length) b
  | [], b, i => by simp [spokenL]
  | l :: a, b, i => by
    simp only [List.cons_append, spokenL, spokenL_app a b (i + 1), List.length_cons]
    have e : i + 1 + a.length = i + (a.length + 1) := by omega
    rw [e]
    split <;> simp
theorem wdL_nil : wdL [] = [] := by simp [wdL, wdGo]
theorem says_nil : saysB [] = false := by simp [saysB, wdL_nil]
/-- A last line without a byte says nothing. -/
theorem spoken_last (d : List (List UInt8)) (c : List UInt8) (i : Nat) : spokenL i (d ++ (if c = [] then [] else [c])) = spokenL i (d ++ [c]) := by
  rw [spokenL_app, spokenL_app]
  by_cases h : c = []
  · subst h; simp [spokenL, says_nil]
  · rw [if_neg h]
end Go.Proofs.YtikioiblaoimkaaGreatDoor

/- Numbers, deeds and their text, as bytes. -/
namespace Go.Proofs.YtikioiblaoimkaaGreatDoor
open Go Go.Lib

def digS (o : Option Nat) (b : UInt8) : Option Nat := o.bind fun n => if 48 ≤ b.toNat ∧ b.toNat ≤ 57 then some (10 * n + (b.toNat - 48)) else none
/-- The number that a word of at most so many digits is. -/
def numO (w : List UInt8) (most : Nat) : Option Nat :=
  if w.length < 1 ∨ most < w.length ∨ (1 < w.length ∧ w.head? = some 48) then none else w.foldl digS (some 0)
def numsO : List (List UInt8) → Option (List Nat)
  | [] => some []
  | w :: ws => (numO w 6).bind fun n => (numsO ws).map (n :: ·)
theorem numsO_app : ∀ a b : List (List UInt8), numsO (a ++ b) = (numsO a).bind fun x => (numsO b).map (x ++ ·)
  | [], b => by cases h : numsO b <;> simp [numsO, h]
  | w :: a, b => by
    simp only [List.cons_append, numsO, numsO_app a b]
    cases numO w 6 <;> cases numsO a <;> cases numsO b <;> simp
theorem numsO_len : ∀ {a : List (List UInt8)} {x : List Nat}, numsO a = some x → x.length = a.length
  | [], x, h => by simp [numsO] at h; simp [← h]
  | w :: a, x, h => by
    simp only [numsO] at h
    cases h1 : numO w 6 with
    | none => simp [h1] at h
    | some n =>
      cases h2 : numsO a with
      | none => simp [h1, h2] at h
      | some y =>
        simp only [h1, h2, Option.map_some, Option.bind_some, Option.some.injEq] at h
        subst h
        simp [numsO_len h2]
theorem fold_none (l : List UInt8) : l.foldl digS none = none := by
  induction l with
  | nil => rfl
  | cons b l ih => simpa [digS] using ih
theorem dig_lt {l : List UInt8} : ∀ {n m : Nat}, l.foldl digS (some n) = some m → m < (n + 1) * 10 ^ l.length := by
  induction l with
  | nil => intro n m h; simp at h; subst h; simp
  | cons b l ih =>
    intro n m h
    rw [List.foldl_cons] at h
    by_cases hb : 48 ≤ b.toNat ∧ b.toNat ≤ 57
    · simp only [digS, Option.bind_some, if_pos hb] at h
      have := ih h
      rw [List.length_cons, Nat.pow_succ, Nat.mul_comm (10 ^ l.length) 10, ← Nat.mul_assoc]
      refine Nat.lt_of_lt_of_le this (Nat.mul_le_mul_right _ (by omega))
    · simp only [digS, Option.bind_some, if_neg hb] at h
      rw [fold_none] at h
      cases h
theorem numO_lt {w : List UInt8} {n : Nat} (h : numO w 6 = some n) : n < 1000000 := by
  unfold numO at h
  split at h
  · cases h
  · rename_i hw
    have := dig_lt h
    have h2 : 10 ^ w.length ≤ 10 ^ 6 := Nat.pow_le_pow_right (by omega) (by omega)
    simp at this
    omega

/-! ### The digits of a number -/
theorem dec_small {u : Nat} (h : u < 10) : decDigits u = [UInt8.ofNat (48 + u)] := decDigits_one h
theorem dec_big {u : Nat} (h : ¬ u < 10) : decDigits u = decDigits (u / 10) ++ [UInt8.ofNat (48 + u % 10)] := by rw [decDigits, dif_neg h]
theorem ofNat_toNat {n : Nat} (h : n < 256) : (UInt8.ofNat n).toNat = n := by simp [UInt8.toNat_ofNat']; omega
theorem dec_fold (u : Nat) : (decDigits u).foldl digS (some 0) = some u := by
  induction u using Nat.strongRecOn with
  | _ u ih =>
    by_cases h : u < 10
    · rw [dec_small h]
      have e := ofNat_toNat (n := 48 + u) (by omega)
      simp only [List.foldl_cons, List.foldl_nil, digS, Option.bind_some, e]
      rw [if_pos (by omega)]
      congr 1
      omega
    · rw [dec_big h, List.foldl_append, ih (u / 10) (by omega)]
      have e := ofNat_toNat (n := 48 + u % 10) (by omega)
      simp only [List.foldl_cons, List.foldl_nil, digS, Option.bind_some, e]
      rw [if_pos (by omega)]
      congr 1
      omega
theorem dec_len : ∀ (k u : Nat), 1 ≤ k → u < 10 ^ k → 1 ≤ (decDigits u).length ∧ (decDigits u).length ≤ k
  | 0, _, h, _ => by omega
  | k + 1, u, _, hu => by
    by_cases h : u < 10
    · rw [dec_small h]; simp
    · rw [dec_big h, List.length_append]
      have hk : 1 ≤ k := by
        rcases Nat.eq_zero_or_pos k with rfl | h0
        · simp at hu; omega
        · exact h0
      have := dec_len k (u / 10) hk (by rw [Nat.pow_succ] at hu; omega)
      simp
      omega
theorem dec_head (u : Nat) : 0 < u → ∃ b t, decDigits u = b :: t ∧ b ≠ 48 := by
  induction u using Nat.strongRecOn with
  | _ u ih =>
    intro h0
    by_cases h : u < 10
    · refine ⟨_, [], dec_small h, fun e => ?_⟩
      have := congrArg UInt8.toNat e
      rw [ofNat_toNat (by omega)] at this
      simp at this
      omega
    · obtain ⟨b, t, h1, h2⟩ := ih (u / 10) (by omega) (by omega)
      exact ⟨b, t ++ [UInt8.ofNat (48 + u % 10)], by rw [dec_big h, h1]; rfl, h2⟩
theorem dec_num {u : Nat} (h : u < 1000000) : numO (decDigits u) 6 = some u := by
  obtain ⟨l1, l2⟩ := dec_len 6 u (by omega) (by simpa using h)
  unfold numO
  rw [if_neg, dec_fold]
  rintro (h3 | h3 | ⟨h3, h4⟩)
  · omega
  · omega
  · by_cases h10 : u < 10
    · rw [dec_small h10] at h3; simp at h3
    · obtain ⟨b, t, h5, h6⟩ := dec_head u (by omega)
      rw [h5] at h4
      simp at h4
      exact h6 h4
theorem dec_mem (u : Nat) : ∀ b ∈ decDigits u, 48 ≤ b.toNat ∧ b.toNat ≤ 57 := by
  induction u using Nat.strongRecOn with
  | _ u ih =>
    intro b hb
    by_cases h : u < 10
    · rw [dec_small h, List.mem_singleton] at hb
      subst hb
      rw [ofNat_toNat (by omega)]
      omega
    · rw [dec_big h, List.mem_append, List.mem_singleton] at hb
      rcases hb with hb | rfl
      · exact ih (u / 10) (by omega) b hb
      · rw [ofNat_toNat (by omega)]
        omega

/-! ### Deeds -/
def deedW : List UInt8 := [100, 101, 101, 100]
def mkDeed (x : List Nat) : Deed := ⟨x.getD 0 0, x.getD 1 0, x.getD 2 0, x.getD 3 0, x.getD 4 0, x.getD 5 0, x.getD 6 0, x.getD 7 0, x.getD 8 0⟩
/-- The deed that words say. -/
def deedO (ws : List (List UInt8)) : Option Deed :=
  match numsO ws.tail with
  | some x => if x.length = 9 ∧ ws.head? = some deedW then some (mkDeed x) else none
  | none => none
def lineO (x : Nat × List UInt8) : Option Deed := deedO (wdL x.2)
/-- The number of the first line of the wrong form; 0 if there is none. -/
def badN : List (Nat × List UInt8) → Nat
  | [] => 0
  | x :: l => if (lineO x).isNone then x.1 else badN l
def parsD (t : List UInt8) : List (Nat × List UInt8) := spokenL 0 (lnL t)
def parsE (t : List UInt8) : Int := if 8000 < t.length then 2 else if badN (parsD t) ≠ 0 then 5 else errI (checkB ((parsD t).filterMap lineO)) 11
def parsN (t : List UInt8) : Int := if 8000 < t.length then 0 else (badN (parsD t) : Int)
def parsL (t : List UInt8) : List Deed := if parsE t = 0 then (parsD t).filterMap lineO else []
theorem badN_good : ∀ {l : List (Nat × List UInt8)}, (∀ x ∈ l, (lineO x).isNone = false) → badN l = 0
  | [], _ => rfl
  | x :: l, h => by
    rw [badN, h x (List.mem_cons_self), if_neg (by simp)]
    exact badN_good fun y hy => h y (List.mem_cons_of_mem _ hy)
theorem badN_first : ∀ {a b : List (Nat × List UInt8)} {x : Nat × List UInt8}, (∀ y ∈ a, (lineO y).isNone = false) → (lineO x).isNone = true → badN (a ++ x :: b) = x.1
  | [], b, x, _, hx => by rw [List.nil_append, badN, if_pos hx]
  | y :: a, b, x, h, hx => by
    rw [List.cons_append, badN, h y (List.mem_cons_self), if_neg (by simp)]
    exact badN_first (fun z hz => h z (List.mem_cons_of_mem _ hz)) hx
theorem spokenL_pos : ∀ (l : List (List UInt8)) (i : Nat), ∀ x ∈ spokenL i l, i < x.1 ∧ saysB x.2 = true
  | [], i, x, hx => by simp [spokenL] at hx
  | l :: ls, i, x, hx => by
    rw [spokenL] at hx
    by_cases h : saysB l = true
    · rw [if_pos h, List.mem_cons] at hx
      rcases hx with rfl | hx
      · exact ⟨Nat.lt_succ_self _, h⟩
      · exact ⟨by have := (spokenL_pos ls (i + 1) x hx).1; omega, (spokenL_pos ls (i + 1) x hx).2⟩
    · rw [if_neg h] at hx
      exact ⟨by have := (spokenL_pos ls (i + 1) x hx).1; omega, (spokenL_pos ls (i + 1) x hx).2⟩

def numsT (ns : List Int) : List UInt8 := ns.flatMap fun n => 32 :: itoa n
def Deed.nums (d : Deed) : List Int := [d.par, d.no, d.kind, d.lock, d.person, d.lo, d.hi, d.known, d.til]
def rowT (d : Deed) : List UInt8 := deedW ++ numsT d.nums
def printT (ds : List Deed) : List UInt8 := ds.flatMap fun d => rowT d ++ [10]

theorem wd_word : ∀ (x cur rest : List UInt8), (∀ b ∈ x, b ≠ 32) → cur ++ x ≠ [] → wdGo cur (x ++ 32 :: rest) = (cur ++ x) :: wdGo [] rest
  | [], cur, rest, _, hne => by
    have h : cur ≠ [] := by simpa using hne
    simp [wdGo, h]
  | b :: x, cur, rest, h, _ => by
    have hb : b ≠ 32 := h b (List.mem_cons_self)
    rw [List.cons_append, wdGo, if_neg hb, wd_word x (cur ++ [b]) rest (fun c hc => h c (List.mem_cons_of_mem _ hc)) (by simp)]
    simp
theorem wd_last : ∀ (x cur : List UInt8), (∀ b ∈ x, b ≠ 32) → cur ++ x ≠ [] → wdGo cur x = [cur ++ x]
  | [], cur, _, hne => by
    have h : cur ≠ [] := by simpa using hne
    simp [wdGo, h]
  | b :: x, cur, h, _ => by
    have hb : b ≠ 32 := h b (List.mem_cons_self)
    rw [wdGo, if_neg hb, wd_last x (cur ++ [b]) (fun c hc => h c (List.mem_cons_of_mem _ hc)) (by simp)]
    simp
theorem itoa_pos {n : Int} (h : 0 ≤ n) : itoa n = decDigits n.toNat := by unfold itoa; rw [if_neg (by omega)]
theorem dec_ne {u : Nat} : decDigits u ≠ [] := by
  by_cases h : u < 10
  · rw [dec_small h]; simp
  · rw [dec_big h]; simp
theorem dec_n32 (u : Nat) : ∀ b ∈ decDigits u, b ≠ 32 := fun b hb e => by
  have := (dec_mem u b hb).1
  rw [e] at this
  simp at this
theorem dec_n10 (u : Nat) : ∀ b ∈ decDigits u, b ≠ 10 := fun b hb e => by
  have := (dec_mem u b hb).1
  rw [e] at this
  simp at this
theorem wd_nums : ∀ (ns : List Int) (w : List UInt8), w ≠ [] → (∀ b ∈ w, b ≠ 32) → (∀ n ∈ ns, 0 ≤ n) → wdGo [] (w ++ numsT ns) = w :: ns.map fun n => decDigits n.toNat
  | [], w, h1, h2, _ => by simpa [numsT] using wd_last w [] h2 (by simpa using h1)
  | n :: ns, w, h1, h2, h3 => by
    have h0 := h3 n (List.mem_cons_self)
    have e : numsT (n :: ns) = 32 :: (decDigits n.toNat ++ numsT ns) := by simp [numsT, itoa_pos h0]
    rw [e, wd_word w [] _ h2 (by simpa using h1), wd_nums ns _ dec_ne (dec_n32 _) (fun m hm => h3 m (List.mem_cons_of_mem _ hm))]
    simp
theorem numsO_dec : ∀ (ns : List Int), (∀ n ∈ ns, 0 ≤ n ∧ n ≤ 100000) → numsO (ns.map fun n => decDigits n.toNat) = some (ns.map Int.toNat)
  | [], _ => rfl
  | n :: ns, h => by
    have h0 := h n (List.mem_cons_self)
    rw [List.map_cons, numsO, dec_num (by omega), numsO_dec ns fun m hm => h m (List.mem_cons_of_mem _ hm)]
    rfl
theorem Deed.bounds {d : Deed} (h : d.okB = true) : ∀ n ∈ d.nums, 0 ≤ n ∧ n ≤ 100000 := by
  have hs : 0 ≤ d.kind ∧ d.kind ≤ 6 ∧ 0 ≤ d.lock ∧ d.lock ≤ 3 ∧ 0 ≤ d.person ∧ d.person ≤ 99 := by
    have h1 : subjB d = true := by
      unfold Deed.okB at h
      simp only [Bool.and_eq_true] at h
      exact h.1
    unfold subjB at h1
    split at h1
    · rename_i hk; simp [withinB] at h1 hk; omega
    · split at h1
      · rename_i hk; simp [withinB] at h1 hk; omega
      · split at h1
        · rename_i hk; simp [withinB] at h1 hk; omega
        · split at h1
          · rename_i hk; simp [withinB] at h1 hk; omega
          · split at h1
            · rename_i hk; simp [withinB] at h1 hk; omega
            · split at h1
              · rename_i hk; simp [withinB] at h1 hk; omega
              · cases h1
  simp only [Deed.okB, itemB, rangeB, lastsB, withinB, Bool.and_eq_true, Bool.or_eq_true, decide_eq_true_eq] at h
  intro n hn
  simp only [Deed.nums, List.mem_cons, List.not_mem_nil, or_false] at hn
  rcases hn with rfl | rfl | rfl | rfl | rfl | rfl | rfl | rfl | rfl <;> omega
theorem deedW_n32 : ∀ b ∈ deedW, b ≠ 32 := by decide
theorem rowT_words {d : Deed} (h : d.okB = true) : wdL (rowT d) = deedW :: d.nums.map fun n => decDigits n.toNat :=
  wd_nums d.nums deedW (by decide) deedW_n32 fun n hn => (d.bounds h n hn).1
theorem rowT_says {d : Deed} (h : d.okB = true) : saysB (rowT d) = true := by
  unfold saysB
  rw [rowT_words h]
  rfl
theorem rowT_deed {d : Deed} (h : d.okB = true) : deedO (wdL (rowT d)) = some d := by
  rw [rowT_words h]
  unfold deedO
  rw [List.tail_cons, numsO_dec _ (d.bounds h)]
  have hb := d.bounds h
  simp only [Deed.nums, List.mem_cons, List.not_mem_nil, or_false, forall_eq_or_imp, forall_eq] at hb
  simp only [Deed.nums, List.map_cons, List.map_nil, List.length_cons, List.length_nil, List.head?_cons, and_self, if_true, mkDeed, List.getD_cons_zero, List.getD_cons_succ]
  obtain ⟨par, no, kind, lock, person, lo, hi, known, til⟩ := d
  simp only [Option.some.injEq, Deed.mk.injEq]
  simp only at hb
  omega
theorem ln_line : ∀ (x cur rest : List UInt8), (∀ b ∈ x, b ≠ 10) → lnGo cur (x ++ 10 :: rest) = (cur ++ x) :: lnGo [] rest
  | [], cur, rest, _ => by simp [lnGo]
  | b :: x, cur, rest, h => by
    have hb : b ≠ 10 := h b (List.mem_cons_self)
    rw [List.cons_append, lnGo, if_neg hb, ln_line x (cur ++ [b]) rest (fun c hc => h c (List.mem_cons_of_mem _ hc))]
    simp
theorem rowT_n10 {d : Deed} (h : d.okB = true) : ∀ b ∈ rowT d, b ≠ 10 := by
  intro b hb
  unfold rowT at hb
  rw [List.mem_append] at hb
  rcases hb with hb | hb
  · have : ∀ b ∈ deedW, b ≠ 10 := by decide
    exact this b hb
  · unfold numsT at hb
    rw [List.mem_flatMap] at hb
    obtain ⟨n, hn, hb⟩ := hb
    rw [List.mem_cons, itoa_pos (d.bounds h n hn).1] at hb
    rcases hb with rfl | hb
    · decide
    · exact dec_n10 _ b hb
theorem print_lines : ∀ (ds : List Deed), (∀ d ∈ ds, d.okB = true) → lnL (printT ds) = ds.map rowT ++ [[]]
  | [], _ => by simp [printT, lnL, lnGo]
  | d :: ds, h => by
    have h0 := h d (List.mem_cons_self)
    have ih := print_lines ds fun e he => h e (List.mem_cons_of_mem _ he)
    have e : printT (d :: ds) = rowT d ++ 10 :: printT ds := by simp [printT]
    unfold lnL at ih ⊢
    rw [e, ln_line _ [] _ (rowT_n10 h0), ih]
    simp
theorem print_spoken : ∀ (ds : List Deed) (i : Nat), (∀ d ∈ ds, d.okB = true) → ∃ l : List (Nat × List UInt8), spokenL i (ds.map rowT ++ [[]]) = l ∧ l.map (·.2) = ds.map rowT
  | [], i, _ => ⟨[], by simp [spokenL, says_nil], rfl⟩
  | d :: ds, i, h => by
    have h0 := h d (List.mem_cons_self)
    obtain ⟨l, h1, h2⟩ := print_spoken ds (i + 1) fun e he => h e (List.mem_cons_of_mem _ he)
    exact ⟨(i + 1, rowT d) :: l, by rw [List.map_cons, List.cons_append, spokenL, if_pos (rowT_says h0), h1], by simp [h2]⟩
theorem map_line : ∀ (l : List (Nat × List UInt8)) (ds : List Deed), l.map (·.2) = ds.map rowT → (∀ d ∈ ds, d.okB = true) → l.filterMap lineO = ds ∧ ∀ x ∈ l, (lineO x).isNone = false
  | [], [], _, _ => ⟨rfl, fun x hx => by cases hx⟩
  | [], d :: ds, h, _ => by simp at h
  | x :: l, [], h, _ => by simp at h
  | x :: l, d :: ds, h, hok => by
    simp only [List.map_cons, List.cons.injEq] at h
    obtain ⟨h1, h2⟩ := map_line l ds h.2 fun e he => hok e (List.mem_cons_of_mem _ he)
    have h3 : lineO x = some d := by
      unfold lineO
      rw [h.1]
      exact rowT_deed (hok d (List.mem_cons_self))
    refine ⟨by rw [List.filterMap_cons, h3, h1], fun y hy => ?_⟩
    rw [List.mem_cons] at hy
    rcases hy with rfl | hy
    · rw [h3]; rfl
    · exact h2 y hy
theorem rowT_len {d : Deed} (h : d.okB = true) : (rowT d).length ≤ 67 := by
  unfold rowT
  rw [List.length_append]
  have : ∀ ns : List Int, (∀ n ∈ ns, 0 ≤ n ∧ n ≤ 100000) → (numsT ns).length ≤ 7 * ns.length := by
    intro ns
    induction ns with
    | nil => intro _; simp [numsT]
    | cons n ns ih =>
      intro hn
      have h0 := hn n (List.mem_cons_self)
      have h1 := ih fun m hm => hn m (List.mem_cons_of_mem _ hm)
      have h2 := (dec_len 6 n.toNat (by omega) (by simp; omega)).2
      have e : numsT (n :: ns) = 32 :: (decDigits n.toNat ++ numsT ns) := by simp [numsT, itoa_pos h0.1]
      rw [e]
      simp
      omega
  have h1 := this d.nums (d.bounds h)
  have h2 : d.nums.length = 9 := rfl
  have h3 : deedW.length = 4 := rfl
  omega
theorem print_len : ∀ (ds : List Deed), (∀ d ∈ ds, d.okB = true) → (printT ds).length ≤ 68 * ds.length
  | [], _ => by simp [printT]
  | d :: ds, h => by
    have h0 := rowT_len (h d (List.mem_cons_self))
    have ih := print_len ds fun e he => h e (List.mem_cons_of_mem _ he)
    have e : printT (d :: ds) = rowT d ++ 10 :: printT ds := by simp [printT]
    rw [e]
    simp
    omega
theorem okAt_ok {ds : List Deed} (h : checkB ds = true) : ∀ d ∈ ds, d.okB = true := by
  intro d hd
  obtain ⟨i, hi, rfl⟩ := List.mem_iff_getElem.1 hd
  unfold checkB at h
  rw [Bool.and_eq_true, List.all_eq_true] at h
  have := h.2 i (by simpa using hi)
  unfold okAt at this
  rw [List.getElem?_eq_getElem hi] at this
  simp only [Bool.and_eq_true] at this
  exact this.1
/-- What is printed is read. -/
theorem parse_print {ds : List Deed} (h : checkB ds = true) : parsE (printT ds) = 0 ∧ parsN (printT ds) = 0 ∧ parsL (printT ds) = ds ∧ (printT ds).length ≤ 4080 := by
  have hok := okAt_ok h
  have hl : ds.length ≤ 60 := by
    unfold checkB at h
    rw [Bool.and_eq_true] at h
    simpa using h.1
  have h1 := print_len ds hok
  have h2 : ¬ 8000 < (printT ds).length := by omega
  obtain ⟨l, h3, h4⟩ := print_spoken ds 0 hok
  obtain ⟨h5, h6⟩ := map_line l ds h4 hok
  have h7 : parsD (printT ds) = l := by unfold parsD; rw [print_lines ds hok, h3]
  have h8 : badN l = 0 := badN_good h6
  have h9 : parsE (printT ds) = 0 := by
    unfold parsE
    rw [if_neg h2, h7, h8, if_neg (by simp), h5, h]
    rfl
  exact ⟨h9, by unfold parsN; rw [if_neg h2, h7, h8]; rfl, by unfold parsL; rw [if_pos h9, h7, h5], by omega⟩
end Go.Proofs.YtikioiblaoimkaaGreatDoor
