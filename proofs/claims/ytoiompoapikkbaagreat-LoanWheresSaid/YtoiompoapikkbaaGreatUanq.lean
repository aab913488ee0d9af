/- Layer 2 of the texts that LoanWheres takes: Uanq. -/
import Derived.Test.YtoiompoapikkbaaGreatUaiq
set_option linter.unusedVariables false
set_option linter.unusedSimpArgs false
/- Layer 2: areValid at numbers, areLeaves of the program. -/
namespace Go.Proofs.YtoiompoapikkbaaGreat
open Go.RowKit
theorem p_leaf1 (n:Int) (w:World):Calls Tryz.prog 155 #[.int .i64 n] w fun e w'=>e=.returned (.int .i64 n)∧w=w':=by
 go_enter Tryz.func155,Tryz.ntmps155
 go_wp2
 go_ret
 exact ⟨rfl,rfl⟩
theorem p_leaf2 (n:Int) (v:Bool) (w:World) (h:withinB n 1 30=v):Calls Tryz.prog 156 #[.int .i64 n] w fun e w'=>e=.returned (.int .i64 (errI v 20))∧w=w':=by
 subst h
 go_enter Tryz.func156,Tryz.ntmps156
 go_wp2_with (first | (go_at_call 84;refine (p_isLeaf _ _).mono ?_;rintro e w1 ⟨rfl,rfl⟩) | (go_at_call 70;refine (p_verdict _ _ _).mono ?_;rintro e w1 ⟨rfl,rfl⟩))
 go_ret
 exact ⟨rfl,rfl⟩
theorem p_leaf2_no (n:Int) (w:World) (h:withinB n 1 30=false):Calls Tryz.prog 156 #[.int .i64 n] w fun e w'=>e=.returned (.int .i64 20)∧w=w':=p_leaf2 n false w h
theorem p_leaf2_yes (n:Int) (w:World) (h:withinB n 1 30=true):Calls Tryz.prog 156 #[.int .i64 n] w fun e w'=>e=.returned (.int .i64 0)∧w=w':=p_leaf2 n true w h
set_option maxHeartbeats 2000000 in
theorem l_areValidI (l:List Int) (A:Option Addr) (n c:Nat) (w:World) (hn:n≤9223372036854775807) (hd:Is w w.heap.size A n l) :
 Calls Tryz.prog 154 #[.slice A n c,.int .i64 30,.func (.func 155) #[] #[],.func (.func 156) #[] #[]] w fun e w'=>e=.returned (.bool (valB id leafB 30 l))∧Below w.heap.size w w':=by
 have hlen:=hd.len
 have HD:=Lib.hid hd
 have HL:=Lib.hid hlen
 clear hd
 by_cases h30:30<n
 ·have hi30:30<(n:Int):=by omega
  clear hlen
  go_enter Tryz.func154,Tryz.ntmps154
  go_wp2
  go_ret
  exact ⟨ret_bool (by rw [valB,HL.out];simp;omega),Below.refl _ _⟩
 ·have hi30:¬ 30<(n:Int):=by omega
  clear hlen
  go_enter Tryz.func154,Tryz.ntmps154
  go_wp2
  go_loopw [17] (fun i wr=>∃ k:Nat,k≤n∧i=.int .i64 k∧(List.range k).all (valAt id leafB l)=true∧Below w.heap.size w wr) (fun i _=>n - (intOf i).toNat)
  case atStart=>exact ⟨0,by omega,rfl,rfl,Below.refl _ _⟩
  case round =>
   obtain ⟨k,hk,rfl,hall,hB⟩:=hrel
   have HA:=Lib.hid hall
   clear hall
   by_cases hlt:k<n
   ·obtain ⟨b,o,x,rfl,hb,hx,hc0⟩:=(Is.ext HD.out hB (Nat.le_refl _)).at_ hlt
    have HX:=Lib.hid hx
    clear hx
    have hs0:w.heap.size≤wr.heap.size:=hB.size
    have hbr:b<wr.heap.size:=by omega
    cases hin:withinB x 1 30 with
    | false =>
      have hf:Hid (valAt id leafB l k=false):=by
       show _=_
       cases k with
       | zero=>simp [valAt,HX.out,leafB,hin]
       | succ j=>cases hj:l[j]? <;> simp [valAt,HX.out,leafB,hin,hj]
      have HI:=Lib.hid hin
      clear hin
      go_wp2_with (go_at_call 156;refine (p_leaf2_no _ _ HI.out).mono ?_;rintro e w1 ⟨rfl,rfl⟩)
      go_ret
      exact ⟨ret_bool (by rw [valB,val_false (by rw [HL.out];exact hlt) hf.out];simp),hB⟩
    | true =>
      have HI:=Lib.hid hin
      clear hin
      by_cases hk0:k=0
      ·have hf:Hid (valAt id leafB l k=true):=by
        show _=_
        have h1:=HX.out
        rw [hk0] at h1 ⊢
        simp [valAt,h1,leafB,HI.out]
       have hk2:decide (0<k)=false:=by simp;omega
       have hk3:¬ (0:Int)<(k:Int):=by omega
       clear hk0
       go_wp2_with (go_at_call 156;refine (p_leaf2_yes _ _ HI.out).mono ?_;rintro e w1 ⟨rfl,rfl⟩)
       go_roundw
       case rel=>exact ⟨k+1,by omega,by go_num,val_succ HA.out hf.out,hB⟩
       case measure=>exact ms_
      ·obtain ⟨j,rfl⟩:∃ j,k=j+1:=⟨k - 1,by omega⟩
       obtain ⟨b',o',y,e',_,hy,hc1⟩:=(Is.ext HD.out hB (Nat.le_refl _)).at_ (k:=j) (by omega)
       obtain ⟨rfl,rfl⟩:b=b'∧o=o':=by simpa using e'
       have HY:=Lib.hid hy
       clear hy e' hk0
       by_cases hxy:y<x
       ·have hf:Hid (valAt id leafB l (j+1)=true):=by show _=_;simp [valAt,HX.out,HY.out,leafB,HI.out,hxy]
        have hxd:decide (x≤y)=false:=by simp;omega
        clear hxy
        go_wp2_with (first | (go_at_call 156;refine (p_leaf2_yes _ _ HI.out).mono ?_;rintro e w1 ⟨rfl,rfl⟩) | (go_at_call 155;refine (p_leaf1 _ _).mono ?_;rintro e w1 ⟨rfl,rfl⟩))
        go_roundw
        case rel=>exact ⟨j+1+1,by omega,by go_num,val_succ HA.out hf.out,hB⟩
        case measure=>exact ms_
       ·have hf:Hid (valAt id leafB l (j+1)=false):=by show _=_;simp [valAt,HX.out,HY.out,leafB,HI.out];omega
        have hxd:decide (x≤y)=true:=by simp;omega
        clear hxy
        go_wp2_with (first | (go_at_call 156;refine (p_leaf2_yes _ _ HI.out).mono ?_;rintro e w1 ⟨rfl,rfl⟩) | (go_at_call 155;refine (p_leaf1 _ _).mono ?_;rintro e w1 ⟨rfl,rfl⟩))
        go_ret
        exact ⟨ret_bool (by rw [valB,val_false (by rw [HL.out];exact hlt) hf.out];simp),hB⟩
   ·have hkn:k=n:=by omega
    have HKn:=Lib.hid hkn
    clear hkn
    go_wp2
    go_ret
    have h1:l.length=k:=by rw [HL.out,HKn.out]
    exact ⟨ret_bool (by rw [valB,h1,HA.out];simp;omega),hB⟩
set_option maxHeartbeats 1000000 in
theorem p_areLeaves (l:List Int) (A:Option Addr) (n c:Nat) (w:World) (hn:n≤9223372036854775807) (hd:Is w w.heap.size A n l) :
 Calls Tryz.prog 76 #[.slice A n c] w fun e w'=>e=.returned (.bool (leavesB l))∧Below w.heap.size w w':=by
 have hlen:=hd.len
 have HV:=Lib.hid (l_areValidI l A n c w hn hd)
 have HL:=Lib.hid hlen
 clear hd hlen
 by_cases h0:0<n
 ·have hi0:0<(n:Int):=by omega
  go_enter Tryz.func76,Tryz.ntmps76
  go_wp2_with (go_at_call 154;refine HV.out.mono ?_;rintro e w1 ⟨rfl,hb1⟩)
  go_ret
  exact ⟨ret_bool (by rw [leavesB,HL.out];simp [h0]),hb1⟩
 ·have hi0:¬ 0<(n:Int):=by omega
  go_enter Tryz.func76,Tryz.ntmps76
  go_wp2_with (go_at_call 154;refine HV.out.mono ?_;rintro e w1 ⟨rfl,hb1⟩)
  go_ret
  exact ⟨ret_bool (by rw [leavesB,HL.out];simp;omega),Below.refl _ _⟩
end Go.Proofs.YtoiompoapikkbaaGreat
/- Layer 2: the checks of a receipt and of a return, by the program and by the reference. -/
namespace Go.Proofs.YtoiompoapikkbaaGreat
open Go.RowKit
set_option maxHeartbeats 4000000 in
theorem p_CheckReceipt (r:Rcp) (A:Option Addr) (n c:Nat) (w:World) (hn:n≤9223372036854775807) (hd:Is w w.heap.size A n r.lv) :
 Calls Tryz.prog 12 #[.agg #[.int .i64 r.src,.int .i64 r.bor,.int .i64 r.pap,.slice A n c,.int .i64 r.day,.int .i64 r.kn,.int .i64 r.un]] w fun e w'=>e=.returned (.int .i64 (errI r.okB 21))∧Below w.heap.size w w':=by
 have HD:=Lib.hid hd
 clear hd
 go_enter Tryz.func12,Tryz.ntmps12
 go_wp2_with (first | (go_at_call 74;refine (p_isSource _ _).mono ?_;rintro e w1 ⟨rfl,rfl⟩) | (go_at_call 75;refine (p_isPerson _ _).mono ?_;rintro e w1 ⟨rfl,rfl⟩) | (go_at_call 71;refine (p_isPaper _ _).mono ?_;rintro e w1 ⟨rfl,rfl⟩) | (go_at_call 76;refine (p_areLeaves r.lv A n c _ hn (HD.out.now (by exact bel_))).mono ?_;rintro e w1 ⟨rfl,hb1⟩;obtain ⟨hc1,hf1⟩:=bcell hb1;have HB1:Below w.heap.size w w1:=Below.then_ (by exact bel_) hb1;have hs1:=HB1.size) | (go_at_call 77;refine (p_isDay _ _).mono ?_;rintro e w1 ⟨rfl,rfl⟩) | (go_at_call 78;refine (p_areTimes _ _ _).mono ?_;rintro e w1 ⟨rfl,rfl⟩) | (go_at_call 72;refine (p_within _ _ _ _).mono ?_;rintro e w1 ⟨rfl,rfl⟩) | (go_at_call 70;refine (p_verdict _ _ _).mono ?_;rintro e w1 ⟨rfl,rfl⟩))
 all_goals
  go_ret
  exact ⟨by simp_all [Rcp.okB],by first | assumption | exact bel_⟩
set_option maxHeartbeats 4000000 in
theorem r_CheckReceipt (r:Rcp) (A:Option Addr) (n c:Nat) (w:World) (hn:n≤9223372036854775807) (hd:Is w w.heap.size A n r.lv) :
 Calls Tryz.prog 13 #[.agg #[.int .i64 r.src,.int .i64 r.bor,.int .i64 r.pap,.slice A n c,.int .i64 r.day,.int .i64 r.kn,.int .i64 r.un]] w fun e w'=>e=.returned (.int .i64 (errI r.okB 21))∧Below w.heap.size w w':=by
 have HD:=Lib.hid hd
 clear hd
 go_enter Tryz.func13,Tryz.ntmps13
 go_wp2_with (first | (go_at_call 79;refine (r_isSource2 _ _).mono ?_;rintro e w1 ⟨rfl,rfl⟩) | (go_at_call 80;refine (r_areLeaves2 r.lv A n c _ hn (HD.out.now (by exact bel_))).mono ?_;rintro e w1 ⟨rfl,hb1⟩;obtain ⟨hc1,hf1⟩:=bcell hb1;have HB1:Below w.heap.size w w1:=Below.then_ (by exact bel_) hb1;have hs1:=HB1.size) | (go_at_call 81;refine (r_isDay2 _ _).mono ?_;rintro e w1 ⟨rfl,rfl⟩) | (go_at_call 82;refine (r_areTimes2 _ _ _).mono ?_;rintro e w1 ⟨rfl,rfl⟩) | (go_at_call 73;refine (r_In2 _ _ _ _).mono ?_;rintro e w1 ⟨rfl,rfl⟩))
 all_goals
  go_ret
  exact ⟨by simp_all [Rcp.okB,errI],by first | assumption | exact bel_⟩
set_option maxHeartbeats 4000000 in
theorem p_CheckReturn (r:Rtn) (A:Option Addr) (n c:Nat) (w:World) (hn:n≤9223372036854775807) (hd:Is w w.heap.size A n r.lv) :
 Calls Tryz.prog 14 #[.agg #[.int .i64 r.src,.int .i64 r.rcp,.int .i64 r.per,.slice A n c,.int .i64 r.lo,.int .i64 r.hi,.int .i64 r.kn,.int .i64 r.un]] w fun e w'=>e=.returned (.int .i64 (errI r.okB 22))∧Below w.heap.size w w':=by
 have HD:=Lib.hid hd
 clear hd
 go_enter Tryz.func14,Tryz.ntmps14
 go_wp2_with (first | (go_at_call 74;refine (p_isSource _ _).mono ?_;rintro e w1 ⟨rfl,rfl⟩) | (go_at_call 75;refine (p_isPerson _ _).mono ?_;rintro e w1 ⟨rfl,rfl⟩) | (go_at_call 76;refine (p_areLeaves r.lv A n c _ hn (HD.out.now (by exact bel_))).mono ?_;rintro e w1 ⟨rfl,hb1⟩;obtain ⟨hc1,hf1⟩:=bcell hb1;have hz1:w.heap.size<w1.heap.size:=(by have h:=hb1.size;(try simp only [World.size_alloc,World.size_setCell] at h);omega);have HB1:Below w.heap.size w w1:=Below.then_ (by exact bel_) hb1) | (go_at_call 83;refine (p_areDays _ _ _).mono ?_;rintro e w1c ⟨rfl,hb1c⟩;obtain ⟨hc1c,hf1c⟩:=bcell hb1c;have HB1c:Below w.heap.size w w1c:=Below.then_ (by exact bel_) hb1c;have hs1c:=HB1c.size) | (go_at_call 78;refine (p_areTimes _ _ _).mono ?_;rintro e w1 ⟨rfl,rfl⟩) | (go_at_call 72;refine (p_within _ _ _ _).mono ?_;rintro e w1 ⟨rfl,rfl⟩) | (go_at_call 70;refine (p_verdict _ _ _).mono ?_;rintro e w1 ⟨rfl,rfl⟩))
 all_goals
  go_ret
  exact ⟨by simp_all [Rtn.okB],by first | assumption | exact bel_⟩
set_option maxHeartbeats 4000000 in
theorem r_CheckReturn (r:Rtn) (A:Option Addr) (n c:Nat) (w:World) (hn:n≤9223372036854775807) (hd:Is w w.heap.size A n r.lv) :
 Calls Tryz.prog 15 #[.agg #[.int .i64 r.src,.int .i64 r.rcp,.int .i64 r.per,.slice A n c,.int .i64 r.lo,.int .i64 r.hi,.int .i64 r.kn,.int .i64 r.un]] w fun e w'=>e=.returned (.int .i64 (errI r.okB 22))∧Below w.heap.size w w':=by
 have HD:=Lib.hid hd
 clear hd
 go_enter Tryz.func15,Tryz.ntmps15
 go_wp2_with (first | (go_at_call 79;refine (r_isSource2 _ _).mono ?_;rintro e w1 ⟨rfl,rfl⟩) | (go_at_call 80;refine (r_areLeaves2 r.lv A n c _ hn (HD.out.now (by exact bel_))).mono ?_;rintro e w1 ⟨rfl,hb1⟩;obtain ⟨hc1,hf1⟩:=bcell hb1;have hz1:w.heap.size<w1.heap.size:=(by have h:=hb1.size;(try simp only [World.size_alloc,World.size_setCell] at h);omega);have HB1:Below w.heap.size w w1:=Below.then_ (by exact bel_) hb1) | (go_at_call 82;refine (r_areTimes2 _ _ _).mono ?_;rintro e w1 ⟨rfl,rfl⟩) | (go_at_call 73;refine (r_In2 _ _ _ _).mono ?_;rintro e w1 ⟨rfl,rfl⟩))
 all_goals
  go_ret
  refine ⟨?_,by first | assumption | exact bel_⟩
  simp_all [Rtn.okB,errI,rangeB]
  try omega
end Go.Proofs.YtoiompoapikkbaaGreat
