/- Layer 2 of the texts that LoanBack takes: Baaq. -/
import Derived.Below
import Derived.BigQuiet
import Derived.ChangeMaps5
import Derived.ChangeOld
import Derived.Deep.AppendLies
import Derived.Deep.CutRange
import Derived.Deep.DeepCutAuto
import Derived.Deep.Fields
import Derived.Deep.QuietTactic
import Derived.Deep.RegionHeld
import Derived.Deep.RegionHeld3
import Derived.Deep.RegionWith
import Derived.Deep.Slices
import Derived.DeepKeys4
import Derived.KernelRfl
import Derived.Laws.Bits64
import Derived.Laws.Externs
import Derived.Laws.IdiomCopy
import Derived.Laws.NewBlocks
import Derived.Laws.OwnMore
import Derived.Lib.AppendZerosOnto
import Derived.Lib.Hide
import Derived.Lib.JoinLaws
import Derived.Lib.Overlaps
import Derived.Lib.SliceRun
import Derived.Lib.SmallJoins
import Derived.LoopIn
import Derived.LoopNIn
import Derived.Maps.AppendAt
import Derived.Maps.Keyed
import Derived.OpenShut
import Derived.OwnWalkIn
import Derived.ProofKit
import Derived.RangeFuncBound
import Derived.RangeFuncBox
import Derived.RangeFuncCalls
import Derived.RangeFuncLeaves
import Derived.RangeFuncNested
import Derived.RegionTactic
import Derived.Shelf.Abstract
import Derived.Shelf.RegionOpen
import Derived.Shelf.RegionOpenPlain
import Derived.Shelf.Spec.SlicesGrow
import Derived.Shelf.Spec.SlicesInsert
import Derived.Shelf.Spec.SlicesInsertGrow
import Derived.ShutString
import Derived.Sort.OwnSortedInts
import Derived.StillTailTactics
import Derived.TacticsInMore
import Derived.Test.YtmcmbicapdcfmaaGreatRows
import Derived.WalkKit
import Derived.WalkLawsBesides
import Derived.WalkSpells
set_option linter.unusedVariables false
set_option linter.unusedSimpArgs false
set_option maxHeartbeats 16000000
namespace Go.Proofs.YtmcmbicapdcfmaaGreat
open Go.RowKit
theorem bel_ {p : Prop} (h : p := by (repeat' (first | with_reducible exact Below.refl _ _ | with_reducible assumption | with_reducible refine Below.alloc ?_ ?_ _ | with_reducible refine Below.setCell ?_ ?_ _ | with_reducible refine Below.drew ?_ | (simp; done) | (simp; omega) | omega))) : p := h
theorem pu1 {α : Type} (l : List α) (i : Nat) (a : α) : l.toArray.setIfInBounds i a = (l.set i a).toArray := List.setIfInBounds_toArray ..
theorem pu2 {α : Type} (a b : α) (l : List α) : (a :: l).set 0 b = b :: l := rfl
theorem pu3 {α : Type} (a b : α) (l : List α) (n : Nat) : (a :: l).set (n + 1) b = a :: l.set n b := rfl
section
variable {P : Program} {ops : Array Oper} {Q : Exit → Act → World → Prop} {md : Region.Mode} {S : World → Prop}
theorem ah1 {fuel : Nat} {listed : Array Bool} {a : Act} {w : World} {i : Nat} {o : Oper} (ho : ops[i]? = some o)
    (h : ∀ K' : Act → World → Prop, Shut (∀ a w, S w → (S w → wpAnyH P md ops Q S fuel (listed.setIfInBounds i true) a w) → K' a w) → if Region.wanted o (yielded ops a.tmps) = true then Oper.wp P o a w K' Q else K' (a.put o.dst undef) w) : AllReadyH P md ops Q S fuel listed a w [i] := AllReadyH.cons ho h AllReadyH.nil
theorem tk_ {i : Nat} {oi : Oper} {v : Value} {fuel : Nat} {listed : Array Bool} {a : Act} {w : World} (hi : ops[i]? = some oi)
    (hy : ∀ w, S w → (execOp a.eval oi).run P w = .ok (.value v) w) (hS : S w)
    (h : wpAnyH P md ops Q S fuel (listed.setIfInBounds i true) (a.put oi.dst v) w)
    (hQ : ∀ c a w, Q (.panic c) (a.put oi.dst v) w → Q (.panic c) a w := by exact fun _ _ _ h => h)
    (hw : Region.wanted oi (yielded ops a.tmps) = true := by rfl)
    (hs : Region.noSelect ops = true := by kernel_rfl) (hf : Region.free md ops listed i = true := by kernel_rfl) (hr : (Region.ready md ops listed).contains i = true := by kernel_rfl) : wpAnyH P md ops Q S (fuel + 1) listed a w :=
  wpAnyH_take hi hs hf hr hQ (Or.inl ⟨hw, hy⟩) hS h
theorem rd_ (rs : List Nat) {fuel : Nat} {listed : Array Bool} {a : Act} {w : World} (h : AllReadyH P md ops Q S fuel listed a w rs) (hr : Region.ready md ops listed = rs := by kernel_rfl) (hne : rs ≠ [] := by simp) : wpAnyH P md ops Q S (fuel + 1) listed a w := wpAnyH_ready hr hne h
end
theorem lr_ {n : Nat} : n ≤ n := Nat.le_refl n
theorem hd_ {p : Prop} (h : p) : Go.RowKit.Hid p := h
theorem ms_ {p : Prop} (h : p := by simp [intOf]; omega) : p := h
def withinB (n lo hi:Int):Bool:=decide (lo≤n) && decide (n≤hi)
structure Deed where
 par:Int
 no:Int
 kind:Int
 lock:Int
 person:Int
 lo:Int
 hi:Int
 known:Int
 til:Int
deriving DecidableEq
def errI (b:Bool) (e:Int):Int:=if b then 0 else e
def itemB (p n:Int):Bool:=withinB p 0 5 && withinB n 0 9999
def rangeB (a b lo hi:Int):Bool:=decide (lo≤a) && (decide (a≤b) && decide (b≤hi))
def lastsB (k u:Int):Bool:=withinB k 0 100000 && (decide (u=0) || (decide (k<u) && withinB u 0 100000))
def subjB (d:Deed):Bool :=
 if d.kind == 1 then decide (d.lock=0) && withinB d.person 1 99
 else if d.kind == 2 then decide (d.lock=0) && withinB d.person 1 99
 else if d.kind == 3 then withinB d.lock 1 3 && withinB d.person 1 99
 else if d.kind == 4 then withinB d.lock 1 3 && withinB d.person 1 99
 else if d.kind == 5 then withinB d.lock 1 3 && decide (d.person=0)
 else if d.kind == 6 then withinB d.lock 1 3 && decide (d.person=0)
 else false
def Deed.okB (d:Deed):Bool:=subjB d && (itemB d.par d.no && (rangeB d.lo d.hi 0 100000 && lastsB d.known d.til))
def countsB (a b k:Int):Bool:=decide (a≤k) && (decide (b=0) || decide (k<b))
theorem ret_bool {a b:Bool} (h:a=b):Ending.returned (.bool a)=.returned (.bool b):=by rw [h]
theorem ret_int {k:IntKind} {a b:Int} (h:a=b):Ending.returned (.int k a)=.returned (.int k b):=by rw [h]
theorem bcell {W w1:World} (hb:Below W.heap.size W w1):(∀ b o,b<W.heap.size→w1.cell? ⟨b,o,none⟩=W.cell? ⟨b,o,none⟩)∧(∀ b o,b<W.heap.size→w1.frozen? ⟨b,o,none⟩=W.frozen? ⟨b,o,none⟩) :=
 ⟨fun b o h=>hb.cell (p:=⟨b,o,none⟩) h,fun b o h=>hb.frozen (p:=⟨b,o,none⟩) h⟩
theorem bt_ {w W w1:World} (h:Below w.heap.size w W) (hb:Below W.heap.size W w1):Below w.heap.size w w1:=h.trans (hb.mono h.size)
theorem p_within (n lo hi:Int) (w:World) :
 Calls Tryz.prog 106 #[.int .i64 n,.int .i64 lo,.int .i64 hi] w fun e w'=>e=.returned (.bool (withinB n lo hi))∧w=w':=by
 go_enter Tryz.func106,Tryz.ntmps106
 go_wp2
 all_goals
  go_ret
  exact ⟨ret_bool (by simp [withinB];try omega),rfl⟩
theorem p_isDay (n:Int) (w:World) :
 Calls Tryz.prog 110 #[.int .i64 n] w fun e w'=>e=.returned (.bool (withinB n 0 100000))∧w=w':=by
 go_enter Tryz.func110,Tryz.ntmps110
 go_wp2_with (go_at_call 106;refine (p_within _ _ _ _).mono ?_;rintro e w1 ⟨rfl,rfl⟩)
 go_ret
 exact ⟨rfl,rfl⟩
theorem p_areDays (a b:Int) (w:World) :
 Calls Tryz.prog 112 #[.agg #[.int .i64 a,.int .i64 b]] w fun e w'=>e=.returned (.bool (rangeB a b 0 100000))∧Below w.heap.size w w':=by
 go_enter Tryz.func112,Tryz.ntmps112
 go_wp2_with (first | (go_at_call 106;refine (p_within _ _ _ _).mono ?_;rintro e w1 ⟨rfl,rfl⟩) | (go_at_call 110;refine (p_isDay _ _).mono ?_;rintro e w1 ⟨rfl,rfl⟩))
 all_goals
  go_ret
  refine ⟨ret_bool ?_,(Below.refl _ _).alloc lr_ _⟩
  simp_all [rangeB,withinB]
  try omega
theorem p_areTimes (k u:Int) (w:World) :
 Calls Tryz.prog 111 #[.int .i64 k,.int .i64 u] w fun e w'=>e=.returned (.bool (lastsB k u))∧w=w':=by
 go_enter Tryz.func111,Tryz.ntmps111
 go_wp2_with (first | (go_at_call 106;refine (p_within _ _ _ _).mono ?_;rintro e w1 ⟨rfl,rfl⟩) | (go_at_call 110;refine (p_isDay _ _).mono ?_;rintro e w1 ⟨rfl,rfl⟩))
 all_goals
  go_ret
  refine ⟨ret_bool ?_,rfl⟩
  simp_all [lastsB,withinB]
  first
   | done
   | omega
   | (have hw:wrap64 (k+1)=k+1:=IntWalk.wrap64_in _ (by constructor <;> omega)
      rw [hw,Bool.eq_iff_iff]
      simp
      omega)
theorem p_counts (a b k:Int) (w:World) :
 Calls Tryz.prog 119 #[.int .i64 a,.int .i64 b,.int .i64 k] w fun e w'=>e=.returned (.bool (countsB a b k))∧w=w':=by
 go_enter Tryz.func119,Tryz.ntmps119
 go_wp2
 all_goals
  go_ret
  exact ⟨ret_bool (by simp [countsB, *];try omega),rfl⟩
theorem p_verdict (b:Bool) (x:Int) (w:World) :
 Calls Tryz.prog 61 #[.bool b,.int .i64 x] w fun e w'=>e=.returned (.int .i64 (errI b x))∧w=w':=by
 cases b <;>
 ·go_enter Tryz.func61,Tryz.ntmps61
  go_wp2
  go_ret
  exact ⟨rfl,rfl⟩
def Grow (W:World):={ w:World // Below W.heap.size W w }
instance (W:World):Nonempty (Grow W):=⟨⟨W,Below.refl _ _⟩⟩
@[go_sem] theorem Grow.cell {W:World} (g:Grow W) (b o:Nat) (h:b<W.heap.size):g.1.cell? ⟨b,o,none⟩=W.cell? ⟨b,o,none⟩:=g.2.cell (p:=⟨b,o,none⟩) h
theorem wp_region_grow {P:Program} {id:Nat} {Q:Exit→Act→World→Prop} {a:Act} {w:World} {l:List Oper} (hm:P.follows .mixedOrders=true) (hB:Region.lexB .any l.toArray=true)
 (h:wpQuiet P l.toArray (fun w'=>∃ g:Grow w,w'=g.1) (fun a'=>∀ w',(∃ g:Grow w,w'=g.1)→Q .normal a' w') l a):(Code.region id l.toArray true).wp P Q a w :=
 wp_region_quiet (C:=fun w'=>∃ g:Grow w,w'=g.1) hm hB ⟨⟨w.drew,(Below.refl _ _).drew⟩,rfl⟩ (by simpa using h)
theorem Calls.grow_of {P:Program} {f:FuncId} {args:Array Value} {W:World} {g:Grow W} {v:Value}
 (h:Calls P f args g.1 fun e w'=>e=.returned v∧Below g.1.heap.size g.1 w'):Calls P f args g.1 fun e w''=>e=.returned v∧∃ g':Grow W,w''=g'.1 :=
 h.mono fun _ w'' ⟨he,hb⟩=>⟨he,⟨w'',g.2.trans (hb.mono g.2.size)⟩,rfl⟩
theorem Calls.grow_same {P:Program} {f:FuncId} {args:Array Value} {W:World} {g:Grow W} {v:Value}
 (h:Calls P f args g.1 fun e w'=>e=.returned v∧g.1=w'):Calls P f args g.1 fun e w''=>e=.returned v∧∃ g':Grow W,w''=g'.1 :=
 h.mono fun _ _ ⟨he,hb⟩=>⟨he,g,hb.symm⟩
theorem Calls.grow_all {P:Program} {f:FuncId} {args:Array Value} {W:World} {g:Grow W} {v:Value}
 (h:∀ g:Grow W,Calls P f args g.1 fun e w'=>e=.returned v∧Below g.1.heap.size g.1 w'):Calls P f args g.1 fun e w''=>e=.returned v∧∃ g':Grow W,w''=g'.1:=Calls.grow_of (h g)
theorem rg_ {P:Program} {id:Nat} {Q:Exit→Act→World→Prop} {a:Act} {w:World} {l:List Oper} (h:wpQuiet P l.toArray (fun w'=>∃ g:Grow w,w'=g.1) (fun a'=>∀ w',(∃ g:Grow w,w'=g.1)→Q .normal a' w') l a) (hm:P.follows .mixedOrders=true:=by kernel_rfl) (hB:Region.lexB .any l.toArray=true:=by kernel_rfl):(Code.region id l.toArray true).wp P Q a w:=wp_region_grow hm hB h
theorem qn_ {P:Program} {ops:Array Oper} {C:World→Prop} {W:World} {Q:Act→World→Prop} {a:Act} (h:∀ w1,Below W.heap.size W w1→(∀ b o,b<W.heap.size→w1.cell? ⟨b,o,none⟩=W.cell? ⟨b,o,none⟩)→(∀ b o,b<W.heap.size→w1.frozen? ⟨b,o,none⟩=W.frozen? ⟨b,o,none⟩)→Q a w1):wpQuiet P ops C (fun a'=>∀ w',(∃ g:Grow W,w'=g.1)→Q a' w') [] a:=wpQuiet_nil fun w1 ⟨g,e⟩=>by subst e;exact h g.1 g.2 (bcell g.2).1 (bcell g.2).2
end Go.Proofs.YtmcmbicapdcfmaaGreat
