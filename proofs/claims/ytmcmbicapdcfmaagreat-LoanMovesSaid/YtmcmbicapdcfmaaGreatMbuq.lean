/- Layer 2 of the texts that LoanMoves takes: Mbuq. -/
import Derived.Test.YtmcmbicapdcfmaaGreatMbrq
set_option linter.unusedVariables false
set_option linter.unusedSimpArgs false
set_option maxHeartbeats 16000000
namespace Go.Proofs.YtmcmbicapdcfmaaGreat
open Go.RowKit Go.Maps
theorem RawIn.now {w w':World} {x:Rsl} {r:RawL} (h:RawIn w x r) (hb:Below w.heap.size w w'):RawIn w' x r :=
 ⟨(Rd.ext h.a hb lr_).more hb.size,(Rd.ext h.b hb lr_).more hb.size,(Rd.ext h.c hb lr_).more hb.size⟩
theorem take_eq_succ2 {α:Type} {xs ys:List α} {k:Nat} {x y:α} (hx:xs[k]?=some x) (hy:ys[k]?=some y) (h:xs.take k=ys.take k):xs.take (k+1)=ys.take (k+1)↔x=y:=by
 rw [take_snoc_some hx,take_snoc_some hy,h]
 simp
theorem r_Same2 (xs ys:List (Int)) (v:Bool) (A B:Option Addr) (n c m d:Nat) (w:World) (hn:n≤1000000) (hm:m≤1000000) (hx:Is w w.heap.size A n xs) (hy:Is w w.heap.size B m ys) (hv:decide (xs=ys)=v) :
 Calls Tryz.prog 33 #[.slice A n c,.slice B m d] w fun e w'=>e=.returned (.bool v)∧Below w.heap.size w w':=by
 have HX:=hd_ hx
 have HY:=hd_ hy
 have HLX:=hd_ hx.len
 have HLY:=hd_ hy.len
 have HV:=hd_ hv
 clear hx hy hv
 by_cases hnm:n=m
 ·subst hnm
  go_enter Tryz.func33,Tryz.ntmps33
  go_wp2
  go_loopw [5] (fun i wr=>∃ k:Nat,k≤n∧i=.int .i64 k∧xs.take k=ys.take k∧Below w.heap.size w wr) (fun i _=>n - (intOf i).toNat)
  case atStart=>exact ⟨0,by omega,rfl,by simp,Below.refl _ _⟩
  case round =>
   obtain ⟨k,hk,rfl,hpre,hB⟩:=hrel
   have HP:=hd_ hpre
   clear hpre
   have hs0:w.heap.size≤wr.heap.size:=hB.size
   by_cases hlt:k<n
   ·obtain ⟨b,o,x,rfl,hb,hxk,hcx⟩:=(HX.out.ext hB lr_).at_ hlt
    obtain ⟨b',o',y,rfl,hb',hyk,hcy⟩:=(HY.out.ext hB lr_).at_ hlt
    have HXK:=hd_ hxk
    have HYK:=hd_ hyk
    clear hxk hyk
    have hbr:b<wr.heap.size:=by omega
    have hbr':b'<wr.heap.size:=by omega
    have HS:=hd_ (take_eq_succ2 HXK.out HYK.out HP.out)
    by_cases hxy:x=y
    ·have hb1:(x != y)=false:=by simp [hxy]
     have HXY:=hd_ hxy
     clear hxy
     go_wp2_with fail
     (refine rg_ ?_;(repeat (go_big_quiet_step (fail)));refine qn_ fun w1 hb1 hc1 hf1=>?_)
     go_wp2_with fail
     go_roundw
     case rel=>exact ⟨k+1,by omega,by go_num,HS.out.2 HXY.out,bt_ hB hb1⟩
     case measure=>exact ms_
    ·have hb1:(x != y)=true:=by simp [hxy]
     have HXY:=hd_ hxy
     clear hxy
     go_wp2_with fail
     (refine rg_ ?_;(repeat (go_big_quiet_step (fail)));refine qn_ fun w1 hb1 hc1 hf1=>?_)
     go_wp2_with fail
     go_ret
     refine ⟨ret_bool ?_,bt_ hB hb1⟩
     rw [← HV.out]
     symm
     apply decide_eq_false
     intro e
     exact HXY.out (HS.out.1 (by rw [e]))
   ·have hkn:k=n:=by omega
    have HKn:=hd_ hkn
    clear hkn
    go_wp2
    go_ret
    refine ⟨ret_bool ?_,hB⟩
    rw [← HV.out]
    symm
    apply decide_eq_true
    have h1:=HP.out
    rwa [List.take_of_length_le (by rw [HLX.out,HKn.out];exact lr_),List.take_of_length_le (by rw [HLY.out,HKn.out];exact lr_)] at h1
 ·have h1:((n:Int) != (m:Int))=true:=by simp;omega
  go_enter Tryz.func33,Tryz.ntmps33
  go_wp2
  go_ret
  refine ⟨ret_bool ?_,Below.refl _ _⟩
  rw [← HV.out]
  symm
  apply decide_eq_false
  intro e
  exact hnm (by rw [← HLX.out,← HLY.out,e])
theorem r_SameFols (xs ys:List (Int × Int)) (v:Bool) (A B:Option Addr) (n c m d:Nat) (w:World) (hn:n≤1000000) (hm:m≤1000000) (hx:Sq QF 2 w w.heap.size A n xs) (hy:Sq QF 2 w w.heap.size B m ys) (hv:decide (xs=ys)=v) :
 Calls Tryz.prog 76 #[.slice A n c,.slice B m d] w fun e w'=>e=.returned (.bool v)∧Below w.heap.size w w':=by
 have HX:=hd_ hx
 have HY:=hd_ hy
 have HLX:=hd_ hx.len
 have HLY:=hd_ hy.len
 have HV:=hd_ hv
 clear hx hy hv
 by_cases hnm:n=m
 ·subst hnm
  go_enter Tryz.func76,Tryz.ntmps76
  go_wp2
  go_loopw [5] (fun i wr=>∃ k:Nat,k≤n∧i=.int .i64 k∧xs.take k=ys.take k∧Below w.heap.size w wr) (fun i _=>n - (intOf i).toNat)
  case atStart=>exact ⟨0,by omega,rfl,by simp,Below.refl _ _⟩
  case round =>
   obtain ⟨k,hk,rfl,hpre,hB⟩:=hrel
   have HP:=hd_ hpre
   clear hpre
   have hs0:w.heap.size≤wr.heap.size:=hB.size
   by_cases hlt:k<n
   ·obtain ⟨b,o,⟨x,x2⟩,rfl,hb,hxk,hcx,hcx2⟩:=(Sq.ext HX.out abF hB lr_).at_ hlt
    obtain ⟨b',o',⟨y,y2⟩,rfl,hb',hyk,hcy,hcy2⟩:=(Sq.ext HY.out abF hB lr_).at_ hlt
    have HXK:=hd_ hxk
    have HYK:=hd_ hyk
    clear hxk hyk
    have hbr:b<wr.heap.size:=by omega
    have hbr':b'<wr.heap.size:=by omega
    have HS:=hd_ (take_eq_succ2 HXK.out HYK.out HP.out)
    by_cases hxy:x=y
    ·by_cases hxy2:x2=y2
     ·have HXY:Hid ((x,x2)=(y,y2)):=by show _=_;rw [hxy,hxy2]
      subst hxy hxy2
      go_wp2_with fail
      (refine rg_ ?_;(repeat (go_big_quiet_step (fail)));refine qn_ fun w1 hb1 hc1 hf1=>?_)
      go_wp2_with fail
      go_roundw
      case rel=>exact ⟨k+1,by omega,by go_num,HS.out.2 HXY.out,bt_ hB hb1⟩
      case measure=>exact ms_
     ·have HXY:Hid (¬ (x,x2)=(y,y2)):=by show ¬ _;intro e;injection e with e1 e2;exact hxy2 e2
      go_wp2_with fail
      (refine rg_ ?_;(repeat (go_big_quiet_step (fail)));refine qn_ fun w1 hb1 hc1 hf1=>?_)
      go_wp2_with fail
      go_ret
      refine ⟨ret_bool ?_,bt_ hB hb1⟩
      rw [← HV.out]
      symm
      apply decide_eq_false
      intro e
      exact HXY.out (HS.out.1 (by rw [e]))
    ·have HXY:Hid (¬ (x,x2)=(y,y2)):=by show ¬ _;intro e;injection e with e1 e2;exact hxy e1
     go_wp2_with fail
     (refine rg_ ?_;(repeat (go_big_quiet_step (fail)));refine qn_ fun w1 hb1 hc1 hf1=>?_)
     go_wp2_with fail
     go_ret
     refine ⟨ret_bool ?_,bt_ hB hb1⟩
     rw [← HV.out]
     symm
     apply decide_eq_false
     intro e
     exact HXY.out (HS.out.1 (by rw [e]))
   ·have hkn:k=n:=by omega
    have HKn:=hd_ hkn
    clear hkn
    go_wp2
    go_ret
    refine ⟨ret_bool ?_,hB⟩
    rw [← HV.out]
    symm
    apply decide_eq_true
    have h1:=HP.out
    rwa [List.take_of_length_le (by rw [HLX.out,HKn.out];exact lr_),List.take_of_length_le (by rw [HLY.out,HKn.out];exact lr_)] at h1
 ·have h1:((n:Int) != (m:Int))=true:=by simp;omega
  go_enter Tryz.func76,Tryz.ntmps76
  go_wp2
  go_ret
  refine ⟨ret_bool ?_,Below.refl _ _⟩
  rw [← HV.out]
  symm
  apply decide_eq_false
  intro e
  exact hnm (by rw [← HLX.out,← HLY.out,e])
end Go.Proofs.YtmcmbicapdcfmaaGreat
namespace Go.Proofs.YtmcmbicapdcfmaaGreat
open Go.ChangeShapes Go.WideShapes Go.ChangeAt Go.RowKit Go.Deep Go.Joins Go.Maps
theorem lenx7 {α:Type}:∀ {l:List α},l.length=7→∃ a0 a1 a2 a3 a4 a5 a6,l=[a0,a1,a2,a3,a4,a5,a6]
 | [a0,a1,a2,a3,a4,a5,a6],_=>⟨a0,a1,a2,a3,a4,a5,a6,rfl⟩
section
variable {H:Type} {enc:TypeId × Value→H} {w:World} {base:Nat} {spare:Nat→Bool} {held:Bool} {fuel:Nat} {cs:List Value} {x:DataW H × List MemPlace}
theorem slice_cell {t e:TypeId} (ht:Tryz.prog.underlying t=some (.slice e)) (h:DataW.trod enc Tryz.prog w base spare held fuel t cs=some x):∃ A n c,cs=(Value.slice A n c).cells.toList:=by
 rcases open_slice ht h with ⟨rfl,_⟩ | ⟨a,len,cap,m,nn,D,Pl,rfl,_⟩
 ·exact ⟨none,0,0,rfl⟩
 ·exact ⟨some a,len,cap,rfl⟩
end
section
variable {H:Type} {enc:TypeId × Value→H} {w:World} {base:Nat} {spare:Nat→Bool} {held:Bool} {r:Reach} {b0:Nat} {v:Value} {d:DataW H} {p:List MemPlace}
end
end Go.Proofs.YtmcmbicapdcfmaaGreat
