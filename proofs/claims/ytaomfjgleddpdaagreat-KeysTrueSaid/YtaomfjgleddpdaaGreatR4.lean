import Derived.Test.YtaomfjgleddpdaaGreatR1
import Derived.SizedLaws
set_option linter.unusedVariables false
set_option linter.unusedSimpArgs false

/- How long a list of numbers is that comes in: the form's own reach. -/
namespace Go.Proofs.YtaomfjgleddpdaaGreat
open Go.ChangeShapes Go.WideShapes Go.ChangeAt Go.RowKit Go.Deep

theorem bytes_int : Tryz.prog.bytesOf 3 = 8 := by kernel_rfl
section
variable {H : Type} {enc : TypeId × Value → H} {w : World} {base : Nat} {spare : Nat → Bool} {held : Bool}
theorem ints_size {A : Option Addr} {n c : Nat} {d : DataW H} {p : List MemPlace} (h : DataW.Trod enc Tryz.prog w base spare held 32 (Value.slice A n c) d p) {ts : List TypeId} {ds : List (DataW H)} {j : Nat}
    (hz : (DataW.weightsEach Tryz.prog ts ds).all (· ≤ reachBytes) = true) (ht : ts[j]? = some 32) (hd : ds[j]? = some d) : n ≤ 17592186044416 := by
  obtain ⟨fuel, hf⟩ := h
  rcases open_slice Tryz.underlying32 hf with ⟨hcs, _⟩ | ⟨a, len, cap, m, nn, D, Pl, hcs, _, hl, hm, hmm, hx, _⟩
  · simp [Value.cells] at hcs
    omega
  · simp [Value.cells] at hcs
    obtain ⟨rfl, rfl, rfl⟩ := hcs
    have h1 := (Prod.mk.inj hx).1
    rw [h1] at hd
    have h2 := sized_slice hz ht hd Tryz.underlying32
    rw [bytes_int] at h2
    simp only [List.length_map, List.length_range] at h2
    have h3 : reachBytes < 2 ^ 47 := reachBytes_lt
    omega
end

end Go.Proofs.YtaomfjgleddpdaaGreat
