/- Layer 2 of the texts that LoanBack takes: Baeq. -/
import Derived.Test.YtmcmbicapdcfmaaGreatBacq
set_option linter.unusedVariables false
set_option linter.unusedSimpArgs false
set_option maxHeartbeats 16000000
namespace Go.Proofs.YtmcmbicapdcfmaaGreat
open Go.RowKit
def itemCells (l:List (Int × Int)):List Value:=l.flatMap fun p=>[.int .i64 p.1,.int .i64 p.2]
def Its (w:World) (B:Nat) (A:Option Addr) (n:Nat) (l:List (Int × Int)):Prop:=Rd w B 2 A n (itemCells l)
end Go.Proofs.YtmcmbicapdcfmaaGreat
namespace Go.Proofs.YtmcmbicapdcfmaaGreat
open Go.ChangeShapes Go.WideShapes Go.ChangeAt Go.RowKit Go.Deep Go.Joins
section
variable {H:Type} {enc:TypeId × Value→H} {w:World} {base:Nat} {spare:Nat→Bool} {held:Bool} {r:Reach} {b0:Nat} {v:Value} {d:DataW H} {p:List MemPlace}
end
end Go.Proofs.YtmcmbicapdcfmaaGreat
namespace Go.Proofs.YtmcmbicapdcfmaaGreat
open Go.RowKit
structure Ppr where
 (id lv:Int)
 deriving DecidableEq
structure Rcp where
 (src bor pap:Int)
 lv:List Int
 (day kn un:Int)
 deriving DecidableEq
structure Rtn where
 (src rcp per:Int)
 lv:List Int
 (lo hi kn un:Int)
 deriving DecidableEq
structure Sgt where
 (src per pap leaf day kn un:Int)
 deriving DecidableEq
def Ppr.okB (p:Ppr):Bool:=withinB p.id 1 999 && withinB p.lv 1 30
def valAt {α:Type} (num:α→Int) (ok:α→Bool) (l:List α):Nat→Bool
 | 0=>match l[0]? with
   | some x=>ok x
   | none=>false
 | j+1=>match l[j+1]?,l[j]? with
   | some x,some y=>ok x && decide (num y<num x)
   | _,_=>false
def valB {α:Type} (num:α→Int) (ok:α→Bool) (most:Nat) (l:List α):Bool:=decide (l.length≤most) && (List.range l.length).all (valAt num ok l)
theorem val_false {α:Type} {num:α→Int} {ok:α→Bool} {l:List α} {k:Nat} (hk:k<l.length) (h:valAt num ok l k=false):(List.range l.length).all (valAt num ok l)=false:=by
 rw [Bool.eq_false_iff]
 intro h2
 rw [List.all_eq_true.1 h2 k (List.mem_range.2 hk)] at h
 cases h
theorem val_succ {α:Type} {num:α→Int} {ok:α→Bool} {l:List α} {k:Nat} (h:(List.range k).all (valAt num ok l)=true) (hk:valAt num ok l k=true):(List.range (k+1)).all (valAt num ok l)=true:=by
 rw [List.range_succ,List.all_append,h]
 simp [hk]
def leafB (x:Int):Bool:=withinB x 1 30
def leavesB (l:List Int):Bool:=decide (0<l.length) && valB id leafB 30 l
def Rcp.okB (r:Rcp):Bool:=withinB r.src 1 99999 && (withinB r.bor 1 99 && (withinB r.pap 1 999 && (leavesB r.lv && (withinB r.day 0 100000 && lastsB r.kn r.un))))
def Rtn.okB (r:Rtn):Bool:=withinB r.src 1 99999 && (withinB r.rcp 1 99999 && (withinB r.per 1 99 && (leavesB r.lv && (rangeB r.lo r.hi 0 100000 && lastsB r.kn r.un))))
def Sgt.okB (s:Sgt):Bool:=withinB s.src 1 99999 && (withinB s.per 0 99 && (withinB s.pap 1 999 && (withinB s.leaf 1 30 && (withinB s.day 0 100000 && lastsB s.kn s.un))))
theorem p_isSource (n:Int) (w:World):Calls Tryz.prog 107 #[.int .i64 n] w fun e w'=>e=.returned (.bool (withinB n 1 99999))∧w=w':=by
 go_enter Tryz.func107,Tryz.ntmps107
 go_wp2_with (go_at_call 106;refine (p_within _ _ _ _).mono ?_;rintro e w1 ⟨rfl,rfl⟩)
 go_ret
 exact ⟨rfl,rfl⟩
theorem p_isPaper (n:Int) (w:World):Calls Tryz.prog 105 #[.int .i64 n] w fun e w'=>e=.returned (.bool (withinB n 1 999))∧w=w':=by
 go_enter Tryz.func105,Tryz.ntmps105
 go_wp2_with (go_at_call 106;refine (p_within _ _ _ _).mono ?_;rintro e w1 ⟨rfl,rfl⟩)
 go_ret
 exact ⟨rfl,rfl⟩
theorem p_isPerson (n:Int) (w:World):Calls Tryz.prog 108 #[.int .i64 n] w fun e w'=>e=.returned (.bool (withinB n 1 99))∧w=w':=by
 go_enter Tryz.func108,Tryz.ntmps108
 go_wp2_with (go_at_call 106;refine (p_within _ _ _ _).mono ?_;rintro e w1 ⟨rfl,rfl⟩)
 go_ret
 exact ⟨rfl,rfl⟩
theorem p_isLeaf (n:Int) (w:World):Calls Tryz.prog 113 #[.int .i64 n] w fun e w'=>e=.returned (.bool (withinB n 1 30))∧w=w':=by
 go_enter Tryz.func113,Tryz.ntmps113
 go_wp2_with (go_at_call 106;refine (p_within _ _ _ _).mono ?_;rintro e w1 ⟨rfl,rfl⟩)
 go_ret
 exact ⟨rfl,rfl⟩
theorem p_CheckPaper (p:Ppr) (w:World):Calls Tryz.prog 46 #[.agg #[.int .i64 p.id,.int .i64 p.lv]] w fun e w'=>e=.returned (.int .i64 (errI p.okB 20))∧Below w.heap.size w w':=by
 go_enter Tryz.func46,Tryz.ntmps46
 go_wp2_with (first | (go_at_call 105;refine (p_isPaper _ _).mono ?_;rintro e w1 ⟨rfl,rfl⟩) | (go_at_call 106;refine (p_within _ _ _ _).mono ?_;rintro e w1 ⟨rfl,rfl⟩) | (go_at_call 61;refine (p_verdict _ _ _).mono ?_;rintro e w1 ⟨rfl,rfl⟩))
 all_goals
  go_ret
  exact ⟨by simp_all [Ppr.okB],by exact bel_⟩
theorem p_CheckSight (s:Sgt) (w:World):Calls Tryz.prog 55 #[.agg #[.int .i64 s.src,.int .i64 s.per,.int .i64 s.pap,.int .i64 s.leaf,.int .i64 s.day,.int .i64 s.kn,.int .i64 s.un]] w fun e w'=>e=.returned (.int .i64 (errI s.okB 23))∧Below w.heap.size w w':=by
 go_enter Tryz.func55,Tryz.ntmps55
 go_wp2_with (first | (go_at_call 107;refine (p_isSource _ _).mono ?_;rintro e w1 ⟨rfl,rfl⟩) | (go_at_call 105;refine (p_isPaper _ _).mono ?_;rintro e w1 ⟨rfl,rfl⟩) | (go_at_call 113;refine (p_isLeaf _ _).mono ?_;rintro e w1 ⟨rfl,rfl⟩) | (go_at_call 110;refine (p_isDay _ _).mono ?_;rintro e w1 ⟨rfl,rfl⟩) | (go_at_call 111;refine (p_areTimes _ _ _).mono ?_;rintro e w1 ⟨rfl,rfl⟩) | (go_at_call 106;refine (p_within _ _ _ _).mono ?_;rintro e w1 ⟨rfl,rfl⟩) | (go_at_call 61;refine (p_verdict _ _ _).mono ?_;rintro e w1 ⟨rfl,rfl⟩))
 all_goals
  go_ret
  exact ⟨by simp_all [Sgt.okB],by exact bel_⟩
end Go.Proofs.YtmcmbicapdcfmaaGreat
