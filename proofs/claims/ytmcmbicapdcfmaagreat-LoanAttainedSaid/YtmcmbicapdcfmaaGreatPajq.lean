/- Layer 2 of the texts that the statements over histories take: Pajq. -/
import Derived.Test.YtmcmbicapdcfmaaGreatPabq
import Derived.Test.YtmcmbicapdcfmaaGreatPacq
set_option linter.unusedVariables false
set_option linter.unusedSimpArgs false
set_option maxHeartbeats 16000000
namespace Go.Proofs.YtmcmbicapdcfmaaGreat
open Go.RowKit
def ansI (can cannot:Bool):Int:=if can then (if cannot then 2 else 1) else 0
theorem p_answer (can cannot:Bool) (w:World) :
 Calls Tryz.prog 94 #[.bool can,.bool cannot] w fun e w'=>e=.returned (.int .i64 (ansI can cannot))∧w=w':=by
 cases can <;> cases cannot <;>
 ·go_enter Tryz.func94,Tryz.ntmps94
  go_wp2
  go_ret
  exact ⟨rfl,rfl⟩
end Go.Proofs.YtmcmbicapdcfmaaGreat
namespace Go.Proofs.YtmcmbicapdcfmaaGreat
open Go.ChangeShapes Go.WideShapes Go.ChangeAt Go.RowKit Go.Deep
theorem own:ownKnob Tryz.prog.godebug=none:=by kernel_rfl
theorem len2 {α:Type}:∀ {l:List α},l.length=2→∃ a b,l=[a,b]
 | [a,b],_=>⟨a,b,rfl⟩
section
variable {H:Type} {enc:TypeId × Value→H} {w:World} {base:Nat} {spare:Nat→Bool} {held:Bool} {fuel:Nat} {cs:List Value} {x:DataW H × List MemPlace}
end
end Go.Proofs.YtmcmbicapdcfmaaGreat
namespace Go.Proofs.YtmcmbicapdcfmaaGreat
open Go.RowKit
theorem p_leaf1 (n:Int) (w:World):Calls Tryz.prog 145 #[.int .i64 n] w fun e w'=>e=.returned (.int .i64 n)∧w=w':=by
 go_enter Tryz.func145,Tryz.ntmps145
 go_wp2
 go_ret
 exact ⟨rfl,rfl⟩
theorem p_leaf2 (n:Int) (v:Bool) (w:World) (h:withinB n 1 30=v):Calls Tryz.prog 146 #[.int .i64 n] w fun e w'=>e=.returned (.int .i64 (errI v 20))∧w=w':=by
 subst h
 go_enter Tryz.func146,Tryz.ntmps146
 go_wp2_with (first | (go_at_call 113;refine (p_isLeaf _ _).mono ?_;rintro e w1 ⟨rfl,rfl⟩) | (go_at_call 61;refine (p_verdict _ _ _).mono ?_;rintro e w1 ⟨rfl,rfl⟩))
 go_ret
 exact ⟨rfl,rfl⟩
theorem p_leaf2_no (n:Int) (w:World) (h:withinB n 1 30=false):Calls Tryz.prog 146 #[.int .i64 n] w fun e w'=>e=.returned (.int .i64 20)∧w=w':=p_leaf2 n false w h
theorem p_leaf2_yes (n:Int) (w:World) (h:withinB n 1 30=true):Calls Tryz.prog 146 #[.int .i64 n] w fun e w'=>e=.returned (.int .i64 0)∧w=w':=p_leaf2 n true w h
theorem l_areValidI (l:List Int) (A:Option Addr) (n c:Nat) (w:World) (hn:n≤9223372036854775807) (hd:Is w w.heap.size A n l) :
 Calls Tryz.prog 144 #[.slice A n c,.int .i64 30,.func (.func 145) #[] #[],.func (.func 146) #[] #[]] w fun e w'=>e=.returned (.bool (valB id leafB 30 l))∧Below w.heap.size w w':=by
 have hlen:=hd.len
 have HD:=hd_ hd
 have HL:=hd_ hlen
 clear hd
 by_cases h30:30<n
 ·have hi30:30<(n:Int):=by omega
  clear hlen
  go_enter Tryz.func144,Tryz.ntmps144
  go_wp2
  go_ret
  exact ⟨ret_bool (by rw [valB,HL.out];simp;omega),Below.refl _ _⟩
 ·have hi30:¬ 30<(n:Int):=by omega
  clear hlen
  go_enter Tryz.func144,Tryz.ntmps144
  go_wp2
  go_loopw [17] (fun i wr=>∃ k:Nat,k≤n∧i=.int .i64 k∧(List.range k).all (valAt id leafB l)=true∧Below w.heap.size w wr) (fun i _=>n - (intOf i).toNat)
  case atStart=>exact ⟨0,by omega,rfl,rfl,Below.refl _ _⟩
  case round =>
   obtain ⟨k,hk,rfl,hall,hB⟩:=hrel
   have HA:=hd_ hall
   clear hall
   by_cases hlt:k<n
   ·obtain ⟨b,o,x,rfl,hb,hx,hc0⟩:=(Is.ext HD.out hB lr_).at_ hlt
    have HX:=hd_ hx
    clear hx
    have hs0:w.heap.size≤wr.heap.size:=hB.size
    have hbr:b<wr.heap.size:=by omega
    cases hin:withinB x 1 30 with
    | false =>
      have hf:Hid (valAt id leafB l k=false):=by
       show _=_
       cases k with
       | zero=>simp [valAt,HX.out,leafB,hin]
       | succ j=>cases hj:l[j]? <;> simp [valAt,HX.out,leafB,hin,hj]
      have HI:=hd_ hin
      clear hin
      go_wp2_with (go_at_call 146;refine (p_leaf2_no _ _ HI.out).mono ?_;rintro e w1 ⟨rfl,rfl⟩)
      go_ret
      exact ⟨ret_bool (by rw [valB,val_false (by rw [HL.out];exact hlt) hf.out];simp),hB⟩
    | true =>
      have HI:=hd_ hin
      clear hin
      by_cases hk0:k=0
      ·have hf:Hid (valAt id leafB l k=true):=by
        show _=_
        have h1:=HX.out
        rw [hk0] at h1 ⊢
        simp [valAt,h1,leafB,HI.out]
       have hk2:decide (0<k)=false:=by simp;omega
       have hk3:¬ (0:Int)<(k:Int):=by omega
       clear hk0
       go_wp2_with (go_at_call 146;refine (p_leaf2_yes _ _ HI.out).mono ?_;rintro e w1 ⟨rfl,rfl⟩)
       go_roundw
       case rel=>exact ⟨k+1,by omega,by go_num,val_succ HA.out hf.out,hB⟩
       case measure=>exact ms_
      ·obtain ⟨j,rfl⟩:∃ j,k=j+1:=⟨k - 1,by omega⟩
       obtain ⟨b',o',y,e',_,hy,hc1⟩:=(Is.ext HD.out hB lr_).at_ (k:=j) (by omega)
       obtain ⟨rfl,rfl⟩:b=b'∧o=o':=by simpa using e'
       have HY:=hd_ hy
       clear hy e' hk0
       by_cases hxy:y<x
       ·have hf:Hid (valAt id leafB l (j+1)=true):=by show _=_;simp [valAt,HX.out,HY.out,leafB,HI.out,hxy]
        have hxd:decide (x≤y)=false:=by simp;omega
        clear hxy
        go_wp2_with (first | (go_at_call 146;refine (p_leaf2_yes _ _ HI.out).mono ?_;rintro e w1 ⟨rfl,rfl⟩) | (go_at_call 145;refine (p_leaf1 _ _).mono ?_;rintro e w1 ⟨rfl,rfl⟩))
        go_roundw
        case rel=>exact ⟨j+1+1,by omega,by go_num,val_succ HA.out hf.out,hB⟩
        case measure=>exact ms_
       ·have hf:Hid (valAt id leafB l (j+1)=false):=by show _=_;simp [valAt,HX.out,HY.out,leafB,HI.out];omega
        have hxd:decide (x≤y)=true:=by simp;omega
        clear hxy
        go_wp2_with (first | (go_at_call 146;refine (p_leaf2_yes _ _ HI.out).mono ?_;rintro e w1 ⟨rfl,rfl⟩) | (go_at_call 145;refine (p_leaf1 _ _).mono ?_;rintro e w1 ⟨rfl,rfl⟩))
        go_ret
        exact ⟨ret_bool (by rw [valB,val_false (by rw [HL.out];exact hlt) hf.out];simp),hB⟩
   ·have hkn:k=n:=by omega
    have HKn:=hd_ hkn
    clear hkn
    go_wp2
    go_ret
    have h1:l.length=k:=by rw [HL.out,HKn.out]
    exact ⟨ret_bool (by rw [valB,h1,HA.out];simp;omega),hB⟩
theorem p_areLeaves (l:List Int) (A:Option Addr) (n c:Nat) (w:World) (hn:n≤9223372036854775807) (hd:Is w w.heap.size A n l) :
 Calls Tryz.prog 109 #[.slice A n c] w fun e w'=>e=.returned (.bool (leavesB l))∧Below w.heap.size w w':=by
 have hlen:=hd.len
 have HV:=hd_ (l_areValidI l A n c w hn hd)
 have HL:=hd_ hlen
 clear hd hlen
 by_cases h0:0<n
 ·have hi0:0<(n:Int):=by omega
  go_enter Tryz.func109,Tryz.ntmps109
  go_wp2_with (go_at_call 144;refine HV.out.mono ?_;rintro e w1 ⟨rfl,hb1⟩)
  go_ret
  exact ⟨ret_bool (by rw [leavesB,HL.out];simp [h0]),hb1⟩
 ·have hi0:¬ 0<(n:Int):=by omega
  go_enter Tryz.func109,Tryz.ntmps109
  go_wp2_with (go_at_call 144;refine HV.out.mono ?_;rintro e w1 ⟨rfl,hb1⟩)
  go_ret
  exact ⟨ret_bool (by rw [leavesB,HL.out];simp;omega),Below.refl _ _⟩
theorem p_CheckReceipt (r:Rcp) (A:Option Addr) (n c:Nat) (w:World) (hn:n≤9223372036854775807) (hd:Is w w.heap.size A n r.lv) :
 Calls Tryz.prog 49 #[.agg #[.int .i64 r.src,.int .i64 r.bor,.int .i64 r.pap,.slice A n c,.int .i64 r.day,.int .i64 r.kn,.int .i64 r.un]] w fun e w'=>e=.returned (.int .i64 (errI r.okB 21))∧Below w.heap.size w w':=by
 have HD:=hd_ hd
 clear hd
 go_enter Tryz.func49,Tryz.ntmps49
 go_wp2_with (first | (go_at_call 107;refine (p_isSource _ _).mono ?_;rintro e w1 ⟨rfl,rfl⟩) | (go_at_call 108;refine (p_isPerson _ _).mono ?_;rintro e w1 ⟨rfl,rfl⟩) | (go_at_call 105;refine (p_isPaper _ _).mono ?_;rintro e w1 ⟨rfl,rfl⟩) | (go_at_call 109;refine (p_areLeaves r.lv A n c _ hn (HD.out.now (by exact bel_))).mono ?_;rintro e w1 ⟨rfl,hb1⟩;obtain ⟨hc1,hf1⟩:=bcell hb1;have HB1:Below w.heap.size w w1:=bt_ (by exact bel_) hb1;have hs1:=HB1.size) | (go_at_call 110;refine (p_isDay _ _).mono ?_;rintro e w1 ⟨rfl,rfl⟩) | (go_at_call 111;refine (p_areTimes _ _ _).mono ?_;rintro e w1 ⟨rfl,rfl⟩) | (go_at_call 106;refine (p_within _ _ _ _).mono ?_;rintro e w1 ⟨rfl,rfl⟩) | (go_at_call 61;refine (p_verdict _ _ _).mono ?_;rintro e w1 ⟨rfl,rfl⟩))
 all_goals
  go_ret
  exact ⟨by simp_all [Rcp.okB],by first | assumption | exact bel_⟩
theorem p_CheckReturn (r:Rtn) (A:Option Addr) (n c:Nat) (w:World) (hn:n≤9223372036854775807) (hd:Is w w.heap.size A n r.lv) :
 Calls Tryz.prog 52 #[.agg #[.int .i64 r.src,.int .i64 r.rcp,.int .i64 r.per,.slice A n c,.int .i64 r.lo,.int .i64 r.hi,.int .i64 r.kn,.int .i64 r.un]] w fun e w'=>e=.returned (.int .i64 (errI r.okB 22))∧Below w.heap.size w w':=by
 have HD:=hd_ hd
 clear hd
 go_enter Tryz.func52,Tryz.ntmps52
 go_wp2_with (first | (go_at_call 107;refine (p_isSource _ _).mono ?_;rintro e w1 ⟨rfl,rfl⟩) | (go_at_call 108;refine (p_isPerson _ _).mono ?_;rintro e w1 ⟨rfl,rfl⟩) | (go_at_call 109;refine (p_areLeaves r.lv A n c _ hn (HD.out.now (by exact bel_))).mono ?_;rintro e w1 ⟨rfl,hb1⟩;obtain ⟨hc1,hf1⟩:=bcell hb1;have hz1:w.heap.size<w1.heap.size:=(by have h:=hb1.size;(try simp only [World.size_alloc,World.size_setCell] at h);omega);have HB1:Below w.heap.size w w1:=bt_ (by exact bel_) hb1) | (go_at_call 112;refine (p_areDays _ _ _).mono ?_;rintro e w1c ⟨rfl,hb1c⟩;obtain ⟨hc1c,hf1c⟩:=bcell hb1c;have HB1c:Below w.heap.size w w1c:=bt_ (by exact bel_) hb1c;have hs1c:=HB1c.size) | (go_at_call 111;refine (p_areTimes _ _ _).mono ?_;rintro e w1 ⟨rfl,rfl⟩) | (go_at_call 106;refine (p_within _ _ _ _).mono ?_;rintro e w1 ⟨rfl,rfl⟩) | (go_at_call 61;refine (p_verdict _ _ _).mono ?_;rintro e w1 ⟨rfl,rfl⟩))
 all_goals
  go_ret
  exact ⟨by simp_all [Rtn.okB],by first | assumption | exact bel_⟩
end Go.Proofs.YtmcmbicapdcfmaaGreat
