/- Layer 2 of the texts that LoanPlaces takes: Pacq. -/
import Derived.Test.YtoiompoapikkbaaGreatPaaq
set_option linter.unusedVariables false
set_option linter.unusedSimpArgs false
set_option maxHeartbeats 16000000
namespace Go.Proofs.YtoiompoapikkbaaGreat
open Go.RowKit Go.Shelf Go.Proofs
theorem grown_drew (w:World) (row:Option Nat):w.grownBy w.drew row:=⟨rfl,rfl,rfl,lr_,fun _ _ _=>rfl⟩
theorem grown_alloc (w:World) (o:Obj) (row:Option Nat):w.grownBy (w.alloc o) row:=⟨rfl,rfl,rfl,by simp,fun _ hk _=>Below.heap_alloc _ _ _ hk⟩
theorem grown_setCell (w:World) (g o:Nat) (v:Value):w.grownBy (w.setCell ⟨g,o,none⟩ v) (some g):=⟨rfl,rfl,rfl,by simp,fun k _ hne=>Below.heap_setCell _ _ _ _ (fun e=>hne (by rw [e]))⟩
theorem grown_setCells (g:Nat):∀ (vs:List Value) (o:Nat) (w:World),w.grownBy (w.setCells g o vs) (some g)
 | [],_,_=>⟨rfl,rfl,rfl,lr_,fun _ _ _=>rfl⟩
 | v :: r,o,w=>(grown_setCell w g o v).trans (grown_setCells g r (o+1) _)
theorem block_setCells {g:Nat} {t:TypeId}:∀ (vs:List Value) (o:Nat) (w:World) (cur:Array Value),w.heap[g]?=some (.cells cur t (0,0))→∃ cur',(w.setCells g o vs).heap[g]?=some (.cells cur' t (0,0))∧cur'.size=cur.size ∧
 ∀ j,j<cur.size→cur'[j]?=if o≤j∧j<o+vs.length then vs[j - o]? else cur[j]?
 | [],o,w,cur,h=>⟨cur,h,rfl,fun j _=>by rw [if_neg (by simp)]⟩
 | v :: r,o,w,cur,h=>by
   obtain ⟨c',h1,h2,h3⟩:=block_setCells r (o+1) (w.setCell ⟨g,o,none⟩ v) _ (heap_setCell_same w g o cur t v h)
   refine ⟨c',h1,by simpa using h2,fun j hj=>?_⟩
   rw [h3 j (by simpa using hj),Array.getElem?_setIfInBounds]
   by_cases e:j=o
   ·subst e
    rw [if_neg (by omega),if_pos rfl,if_pos hj,if_pos (by simp),Nat.sub_self,List.getElem?_cons_zero]
   ·by_cases h4:o+1≤j∧j<o+1+r.length
    ·rw [if_pos h4,if_pos (by simp;omega),show j - o=(j - (o+1))+1 from by omega,List.getElem?_cons_succ]
    ·rw [if_neg h4,if_neg (fun h=>e h.symm),if_neg (by simp;omega)]
end Go.Proofs.YtoiompoapikkbaaGreat
namespace Go.Proofs.YtoiompoapikkbaaGreat
open Go.RowKit Go.Shelf Go.Maps
attribute [local go_sem] Oper.semAt_some
structure KeepP (P:Nat→Prop) (W W':World):Prop where
 size:W.heap.size≤W'.heap.size
 blk:∀ k,P k→W'.heap[k]?=W.heap[k]?
section
variable {P:Nat→Prop} {W W':World}
theorem KeepP.refl (P:Nat→Prop) (W:World):KeepP P W W:=⟨lr_,fun _ _=>rfl⟩
theorem KeepP.trans {X Y Z:World} (h:KeepP P X Y) (k:KeepP P Y Z):KeepP P X Z:=⟨Nat.le_trans h.size k.size,fun i hi=>(k.blk i hi).trans (h.blk i hi)⟩
theorem KeepP.cell (h:KeepP P W W') {b:Nat} (hb:P b) (o:Nat):W'.cell? ⟨b,o,none⟩=W.cell? ⟨b,o,none⟩:=by simp only [World.cell?,h.blk b hb]
theorem KeepP.of_below {B:Nat} (h:Below B W W') (hP:∀ k,P k→k<B):KeepP P W W':=⟨h.size,fun k hk=>h.block k (hP k hk)⟩
theorem KeepP.drew (W:World):KeepP P W W.drew:=⟨lr_,fun _ _=>rfl⟩
theorem KeepP.setCell {a:Addr} (W:World) (v:Value) (h:¬ P a.block):KeepP P W (W.setCell a v) :=
 ⟨by simp,fun k hk=>Below.heap_setCell _ _ _ _ fun e=>h (e ▸ hk)⟩
theorem keepP_b {w:World} (hP:∀ k,P k→k<w.heap.size):∀ (W:World) (l:Nat) (o o':Obj),w.heap.size≤l→W.heap[l]?=some o→o.isCells=false→o.isWalk=false→KeepP P W (W.putObj l o'):=fun W l o o' hl _ _ _ =>
 ⟨by simp,fun k hk=>World.putObj_heap_other (by have:=hP k hk;omega)⟩
end
theorem keepP_t {P:Nat→Prop}:∀ {A B C:World},KeepP P A B→KeepP P B C→KeepP P A C:=fun h k=>h.trans k
theorem grown_of_below {W W':World} (h:Below W.heap.size W W'):W.grownBy W' none:=⟨h.os,h.tape,h.output,h.size,fun k hk _=>h.block k hk⟩
end Go.Proofs.YtoiompoapikkbaaGreat
namespace Go.Proofs.YtoiompoapikkbaaGreat
open Go.RowKit
structure Ppr where
 (id lv:Int)
 deriving DecidableEq
structure Rcp where
 (src bor pap:Int)
 lv:List Int
 (day kn un:Int)
 deriving DecidableEq
structure Rtn where
 (src rcp per:Int)
 lv:List Int
 (lo hi kn un:Int)
 deriving DecidableEq
structure Sgt where
 (src per pap leaf day kn un:Int)
 deriving DecidableEq
def Ppr.okB (p:Ppr):Bool:=withinB p.id 1 999 && withinB p.lv 1 30
def valAt {α:Type} (num:α→Int) (ok:α→Bool) (l:List α):Nat→Bool
 | 0=>match l[0]? with
   | some x=>ok x
   | none=>false
 | j+1=>match l[j+1]?,l[j]? with
   | some x,some y=>ok x && decide (num y<num x)
   | _,_=>false
def valB {α:Type} (num:α→Int) (ok:α→Bool) (most:Nat) (l:List α):Bool:=decide (l.length≤most) && (List.range l.length).all (valAt num ok l)
theorem val_false {α:Type} {num:α→Int} {ok:α→Bool} {l:List α} {k:Nat} (hk:k<l.length) (h:valAt num ok l k=false):(List.range l.length).all (valAt num ok l)=false:=by
 rw [Bool.eq_false_iff]
 intro h2
 rw [List.all_eq_true.1 h2 k (List.mem_range.2 hk)] at h
 cases h
theorem val_succ {α:Type} {num:α→Int} {ok:α→Bool} {l:List α} {k:Nat} (h:(List.range k).all (valAt num ok l)=true) (hk:valAt num ok l k=true):(List.range (k+1)).all (valAt num ok l)=true:=by
 rw [List.range_succ,List.all_append,h]
 simp [hk]
def leafB (x:Int):Bool:=withinB x 1 30
def leavesB (l:List Int):Bool:=decide (0<l.length) && valB id leafB 30 l
def Rcp.okB (r:Rcp):Bool:=withinB r.src 1 99999 && (withinB r.bor 1 99 && (withinB r.pap 1 999 && (leavesB r.lv && (withinB r.day 0 100000 && lastsB r.kn r.un))))
def Rtn.okB (r:Rtn):Bool:=withinB r.src 1 99999 && (withinB r.rcp 1 99999 && (withinB r.per 1 99 && (leavesB r.lv && (rangeB r.lo r.hi 0 100000 && lastsB r.kn r.un))))
def Sgt.okB (s:Sgt):Bool:=withinB s.src 1 99999 && (withinB s.per 0 99 && (withinB s.pap 1 999 && (withinB s.leaf 1 30 && (withinB s.day 0 100000 && lastsB s.kn s.un))))
theorem p_isSource (n:Int) (w:World):Calls Tryz.prog 74 #[.int .i64 n] w fun e w'=>e=.returned (.bool (withinB n 1 99999))∧w=w':=by
 go_enter Tryz.func74,Tryz.ntmps74
 go_wp2_with (go_at_call 72;refine (p_within _ _ _ _).mono ?_;rintro e w1 ⟨rfl,rfl⟩)
 go_ret
 exact ⟨rfl,rfl⟩
theorem p_isPaper (n:Int) (w:World):Calls Tryz.prog 71 #[.int .i64 n] w fun e w'=>e=.returned (.bool (withinB n 1 999))∧w=w':=by
 go_enter Tryz.func71,Tryz.ntmps71
 go_wp2_with (go_at_call 72;refine (p_within _ _ _ _).mono ?_;rintro e w1 ⟨rfl,rfl⟩)
 go_ret
 exact ⟨rfl,rfl⟩
theorem p_isPerson (n:Int) (w:World):Calls Tryz.prog 75 #[.int .i64 n] w fun e w'=>e=.returned (.bool (withinB n 1 99))∧w=w':=by
 go_enter Tryz.func75,Tryz.ntmps75
 go_wp2_with (go_at_call 72;refine (p_within _ _ _ _).mono ?_;rintro e w1 ⟨rfl,rfl⟩)
 go_ret
 exact ⟨rfl,rfl⟩
theorem p_isLeaf (n:Int) (w:World):Calls Tryz.prog 84 #[.int .i64 n] w fun e w'=>e=.returned (.bool (withinB n 1 30))∧w=w':=by
 go_enter Tryz.func84,Tryz.ntmps84
 go_wp2_with (go_at_call 72;refine (p_within _ _ _ _).mono ?_;rintro e w1 ⟨rfl,rfl⟩)
 go_ret
 exact ⟨rfl,rfl⟩
theorem r_In2 (n lo hi:Int) (w:World):Calls Tryz.prog 73 #[.int .i64 n,.int .i64 lo,.int .i64 hi] w fun e w'=>e=.returned (.bool (withinB n lo hi))∧w=w':=by
 go_enter Tryz.func73,Tryz.ntmps73
 go_wp2
 all_goals
  go_ret
  exact ⟨ret_bool (by simp [withinB];try omega),rfl⟩
theorem r_isSource2 (n:Int) (w:World):Calls Tryz.prog 79 #[.int .i64 n] w fun e w'=>e=.returned (.bool (withinB n 1 99999))∧w=w':=by
 go_enter Tryz.func79,Tryz.ntmps79
 go_wp2_with (go_at_call 73;refine (r_In2 _ _ _ _).mono ?_;rintro e w1 ⟨rfl,rfl⟩)
 go_ret
 exact ⟨rfl,rfl⟩
theorem r_isDay2 (n:Int) (w:World):Calls Tryz.prog 81 #[.int .i64 n] w fun e w'=>e=.returned (.bool (withinB n 0 100000))∧w=w':=by
 go_enter Tryz.func81,Tryz.ntmps81
 go_wp2_with (go_at_call 73;refine (r_In2 _ _ _ _).mono ?_;rintro e w1 ⟨rfl,rfl⟩)
 go_ret
 exact ⟨rfl,rfl⟩
theorem r_areTimes2 (k u:Int) (w:World):Calls Tryz.prog 82 #[.int .i64 k,.int .i64 u] w fun e w'=>e=.returned (.bool (lastsB k u))∧w=w':=by
 go_enter Tryz.func82,Tryz.ntmps82
 go_wp2_with (go_at_call 81;refine (r_isDay2 _ _).mono ?_;rintro e w1 ⟨rfl,rfl⟩)
 all_goals
  go_ret
  refine ⟨ret_bool ?_,rfl⟩
  simp_all [lastsB,withinB]
  first
   | done
   | omega
   | (rw [Bool.eq_iff_iff]
      simp [*]
      try omega)
theorem p_CheckPaper (p:Ppr) (w:World):Calls Tryz.prog 10 #[.agg #[.int .i64 p.id,.int .i64 p.lv]] w fun e w'=>e=.returned (.int .i64 (errI p.okB 20))∧Below w.heap.size w w':=by
 go_enter Tryz.func10,Tryz.ntmps10
 go_wp2_with (first | (go_at_call 71;refine (p_isPaper _ _).mono ?_;rintro e w1 ⟨rfl,rfl⟩) | (go_at_call 72;refine (p_within _ _ _ _).mono ?_;rintro e w1 ⟨rfl,rfl⟩) | (go_at_call 70;refine (p_verdict _ _ _).mono ?_;rintro e w1 ⟨rfl,rfl⟩))
 all_goals
  go_ret
  exact ⟨by simp_all [Ppr.okB],by exact bel_⟩
theorem r_CheckPaper (p:Ppr) (w:World):Calls Tryz.prog 11 #[.agg #[.int .i64 p.id,.int .i64 p.lv]] w fun e w'=>e=.returned (.int .i64 (errI p.okB 20))∧Below w.heap.size w w':=by
 go_enter Tryz.func11,Tryz.ntmps11
 go_wp2_with (go_at_call 73;refine (r_In2 _ _ _ _).mono ?_;rintro e w1 ⟨rfl,rfl⟩)
 all_goals
  go_ret
  exact ⟨by simp_all [Ppr.okB,errI],by exact bel_⟩
theorem p_CheckSight (s:Sgt) (w:World):Calls Tryz.prog 16 #[.agg #[.int .i64 s.src,.int .i64 s.per,.int .i64 s.pap,.int .i64 s.leaf,.int .i64 s.day,.int .i64 s.kn,.int .i64 s.un]] w fun e w'=>e=.returned (.int .i64 (errI s.okB 23))∧Below w.heap.size w w':=by
 go_enter Tryz.func16,Tryz.ntmps16
 go_wp2_with (first | (go_at_call 74;refine (p_isSource _ _).mono ?_;rintro e w1 ⟨rfl,rfl⟩) | (go_at_call 71;refine (p_isPaper _ _).mono ?_;rintro e w1 ⟨rfl,rfl⟩) | (go_at_call 84;refine (p_isLeaf _ _).mono ?_;rintro e w1 ⟨rfl,rfl⟩) | (go_at_call 77;refine (p_isDay _ _).mono ?_;rintro e w1 ⟨rfl,rfl⟩) | (go_at_call 78;refine (p_areTimes _ _ _).mono ?_;rintro e w1 ⟨rfl,rfl⟩) | (go_at_call 72;refine (p_within _ _ _ _).mono ?_;rintro e w1 ⟨rfl,rfl⟩) | (go_at_call 70;refine (p_verdict _ _ _).mono ?_;rintro e w1 ⟨rfl,rfl⟩))
 all_goals
  go_ret
  exact ⟨by simp_all [Sgt.okB],by exact bel_⟩
theorem r_CheckSight (s:Sgt) (w:World):Calls Tryz.prog 17 #[.agg #[.int .i64 s.src,.int .i64 s.per,.int .i64 s.pap,.int .i64 s.leaf,.int .i64 s.day,.int .i64 s.kn,.int .i64 s.un]] w fun e w'=>e=.returned (.int .i64 (errI s.okB 23))∧Below w.heap.size w w':=by
 go_enter Tryz.func17,Tryz.ntmps17
 go_wp2_with (first | (go_at_call 79;refine (r_isSource2 _ _).mono ?_;rintro e w1 ⟨rfl,rfl⟩) | (go_at_call 81;refine (r_isDay2 _ _).mono ?_;rintro e w1 ⟨rfl,rfl⟩) | (go_at_call 82;refine (r_areTimes2 _ _ _).mono ?_;rintro e w1 ⟨rfl,rfl⟩) | (go_at_call 73;refine (r_In2 _ _ _ _).mono ?_;rintro e w1 ⟨rfl,rfl⟩))
 all_goals
  go_ret
  exact ⟨by simp_all [Sgt.okB,errI],by exact bel_⟩
end Go.Proofs.YtoiompoapikkbaaGreat
