/- Layer 2 of the texts that LoanPlaces takes: Pagq. -/
import Derived.Test.YtoiompoapikkbaaGreatPabq
import Derived.Test.YtoiompoapikkbaaGreatPacq
set_option linter.unusedVariables false
set_option linter.unusedSimpArgs false
set_option maxHeartbeats 16000000
namespace Go.Proofs.YtoiompoapikkbaaGreat
open Go.RowKit
theorem p_leaf1 (n:Int) (w:World):Calls Tryz.prog 155 #[.int .i64 n] w fun e w'=>e=.returned (.int .i64 n)∧w=w':=by
 go_enter Tryz.func155,Tryz.ntmps155
 go_wp2
 go_ret
 exact ⟨rfl,rfl⟩
theorem p_leaf2 (n:Int) (v:Bool) (w:World) (h:withinB n 1 30=v):Calls Tryz.prog 156 #[.int .i64 n] w fun e w'=>e=.returned (.int .i64 (errI v 20))∧w=w':=by
 subst h
 go_enter Tryz.func156,Tryz.ntmps156
 go_wp2_with (first | (go_at_call 84;refine (p_isLeaf _ _).mono ?_;rintro e w1 ⟨rfl,rfl⟩) | (go_at_call 70;refine (p_verdict _ _ _).mono ?_;rintro e w1 ⟨rfl,rfl⟩))
 go_ret
 exact ⟨rfl,rfl⟩
theorem p_leaf2_no (n:Int) (w:World) (h:withinB n 1 30=false):Calls Tryz.prog 156 #[.int .i64 n] w fun e w'=>e=.returned (.int .i64 20)∧w=w':=p_leaf2 n false w h
theorem p_leaf2_yes (n:Int) (w:World) (h:withinB n 1 30=true):Calls Tryz.prog 156 #[.int .i64 n] w fun e w'=>e=.returned (.int .i64 0)∧w=w':=p_leaf2 n true w h
theorem l_areValidI (l:List Int) (A:Option Addr) (n c:Nat) (w:World) (hn:n≤9223372036854775807) (hd:Is w w.heap.size A n l) :
 Calls Tryz.prog 154 #[.slice A n c,.int .i64 30,.func (.func 155) #[] #[],.func (.func 156) #[] #[]] w fun e w'=>e=.returned (.bool (valB id leafB 30 l))∧Below w.heap.size w w':=by
 have hlen:=hd.len
 have HD:=hd_ hd
 have HL:=hd_ hlen
 clear hd
 by_cases h30:30<n
 ·have hi30:30<(n:Int):=by omega
  clear hlen
  go_enter Tryz.func154,Tryz.ntmps154
  go_wp2
  go_ret
  exact ⟨ret_bool (by rw [valB,HL.out];simp;omega),Below.refl _ _⟩
 ·have hi30:¬ 30<(n:Int):=by omega
  clear hlen
  go_enter Tryz.func154,Tryz.ntmps154
  go_wp2
  go_loopw [17] (fun i wr=>∃ k:Nat,k≤n∧i=.int .i64 k∧(List.range k).all (valAt id leafB l)=true∧Below w.heap.size w wr) (fun i _=>n - (intOf i).toNat)
  case atStart=>exact ⟨0,by omega,rfl,rfl,Below.refl _ _⟩
  case round =>
   obtain ⟨k,hk,rfl,hall,hB⟩:=hrel
   have HA:=hd_ hall
   clear hall
   by_cases hlt:k<n
   ·obtain ⟨b,o,x,rfl,hb,hx,hc0⟩:=(Is.ext HD.out hB lr_).at_ hlt
    have HX:=hd_ hx
    clear hx
    have hs0:w.heap.size≤wr.heap.size:=hB.size
    have hbr:b<wr.heap.size:=by omega
    cases hin:withinB x 1 30 with
    | false =>
      have hf:Hid (valAt id leafB l k=false):=by
       show _=_
       cases k with
       | zero=>simp [valAt,HX.out,leafB,hin]
       | succ j=>cases hj:l[j]? <;> simp [valAt,HX.out,leafB,hin,hj]
      have HI:=hd_ hin
      clear hin
      go_wp2_with (go_at_call 156;refine (p_leaf2_no _ _ HI.out).mono ?_;rintro e w1 ⟨rfl,rfl⟩)
      go_ret
      exact ⟨ret_bool (by rw [valB,val_false (by rw [HL.out];exact hlt) hf.out];simp),hB⟩
    | true =>
      have HI:=hd_ hin
      clear hin
      by_cases hk0:k=0
      ·have hf:Hid (valAt id leafB l k=true):=by
        show _=_
        have h1:=HX.out
        rw [hk0] at h1 ⊢
        simp [valAt,h1,leafB,HI.out]
       have hk2:decide (0<k)=false:=by simp;omega
       have hk3:¬ (0:Int)<(k:Int):=by omega
       clear hk0
       go_wp2_with (go_at_call 156;refine (p_leaf2_yes _ _ HI.out).mono ?_;rintro e w1 ⟨rfl,rfl⟩)
       go_roundw
       case rel=>exact ⟨k+1,by omega,by go_num,val_succ HA.out hf.out,hB⟩
       case measure=>exact ms_
      ·obtain ⟨j,rfl⟩:∃ j,k=j+1:=⟨k - 1,by omega⟩
       obtain ⟨b',o',y,e',_,hy,hc1⟩:=(Is.ext HD.out hB lr_).at_ (k:=j) (by omega)
       obtain ⟨rfl,rfl⟩:b=b'∧o=o':=by simpa using e'
       have HY:=hd_ hy
       clear hy e' hk0
       by_cases hxy:y<x
       ·have hf:Hid (valAt id leafB l (j+1)=true):=by show _=_;simp [valAt,HX.out,HY.out,leafB,HI.out,hxy]
        have hxd:decide (x≤y)=false:=by simp;omega
        clear hxy
        go_wp2_with (first | (go_at_call 156;refine (p_leaf2_yes _ _ HI.out).mono ?_;rintro e w1 ⟨rfl,rfl⟩) | (go_at_call 155;refine (p_leaf1 _ _).mono ?_;rintro e w1 ⟨rfl,rfl⟩))
        go_roundw
        case rel=>exact ⟨j+1+1,by omega,by go_num,val_succ HA.out hf.out,hB⟩
        case measure=>exact ms_
       ·have hf:Hid (valAt id leafB l (j+1)=false):=by show _=_;simp [valAt,HX.out,HY.out,leafB,HI.out];omega
        have hxd:decide (x≤y)=true:=by simp;omega
        clear hxy
        go_wp2_with (first | (go_at_call 156;refine (p_leaf2_yes _ _ HI.out).mono ?_;rintro e w1 ⟨rfl,rfl⟩) | (go_at_call 155;refine (p_leaf1 _ _).mono ?_;rintro e w1 ⟨rfl,rfl⟩))
        go_ret
        exact ⟨ret_bool (by rw [valB,val_false (by rw [HL.out];exact hlt) hf.out];simp),hB⟩
   ·have hkn:k=n:=by omega
    have HKn:=hd_ hkn
    clear hkn
    go_wp2
    go_ret
    have h1:l.length=k:=by rw [HL.out,HKn.out]
    exact ⟨ret_bool (by rw [valB,h1,HA.out];simp;omega),hB⟩
theorem p_areLeaves (l:List Int) (A:Option Addr) (n c:Nat) (w:World) (hn:n≤9223372036854775807) (hd:Is w w.heap.size A n l) :
 Calls Tryz.prog 76 #[.slice A n c] w fun e w'=>e=.returned (.bool (leavesB l))∧Below w.heap.size w w':=by
 have hlen:=hd.len
 have HV:=hd_ (l_areValidI l A n c w hn hd)
 have HL:=hd_ hlen
 clear hd hlen
 by_cases h0:0<n
 ·have hi0:0<(n:Int):=by omega
  go_enter Tryz.func76,Tryz.ntmps76
  go_wp2_with (go_at_call 154;refine HV.out.mono ?_;rintro e w1 ⟨rfl,hb1⟩)
  go_ret
  exact ⟨ret_bool (by rw [leavesB,HL.out];simp [h0]),hb1⟩
 ·have hi0:¬ 0<(n:Int):=by omega
  go_enter Tryz.func76,Tryz.ntmps76
  go_wp2_with (go_at_call 154;refine HV.out.mono ?_;rintro e w1 ⟨rfl,hb1⟩)
  go_ret
  exact ⟨ret_bool (by rw [leavesB,HL.out];simp;omega),Below.refl _ _⟩
def Sq {α:Type} (Q:World→Nat→Nat→Nat→α→Prop) (size:Nat) (w:World) (B:Nat) (A:Option Addr) (n:Nat) (xs:List α):Prop :=
 xs.length=n∧(0<n→∃ b o,A=some ⟨b,o,none⟩∧b<B∧∀ k x,xs[k]?=some x→Q w B b (o+k*size) x)
def Abides {α:Type} (Q:World→Nat→Nat→Nat→α→Prop):Prop :=
 (∀ w w' B b o x,Q w B b o x→b<B→(∀ b o,b<B→w'.cell? ⟨b,o,none⟩=w.cell? ⟨b,o,none⟩)→Q w' B b o x)∧(∀ w B B' b o x,Q w B b o x→B≤B'→Q w B' b o x)
section
variable {α:Type} {Q:World→Nat→Nat→Nat→α→Prop} {size:Nat} {w w':World} {B B' n:Nat} {A:Option Addr} {xs:List α}
theorem Sq.len (h:Sq Q size w B A n xs):xs.length=n:=h.1
theorem Sq.at_ (h:Sq Q size w B A n xs) {k:Nat} (hk:k<n):∃ b o x,A=some ⟨b,o,none⟩∧b<B∧xs[k]?=some x∧Q w B b (o+k*size) x:=by
 obtain ⟨b,o,e,hb,hc⟩:=h.2 (by omega)
 have hd:xs[k]?=some (xs[k]'(by rw [h.1];exact hk)):=List.getElem?_eq_getElem _
 exact ⟨b,o,_,e,hb,hd,hc k _ hd⟩
theorem Sq.keep (h:Sq Q size w B A n xs) (hQ:Abides Q) (hk:∀ b o,b<B→w'.cell? ⟨b,o,none⟩=w.cell? ⟨b,o,none⟩):Sq Q size w' B A n xs :=
 ⟨h.1,fun hn=>by
   obtain ⟨b,o,e,hb,hc⟩:=h.2 hn
   exact ⟨b,o,e,hb,fun k x hx=>hQ.1 _ _ _ _ _ _ (hc k x hx) hb hk⟩⟩
theorem Sq.more (h:Sq Q size w B A n xs) (hQ:Abides Q) (hB:B≤B'):Sq Q size w B' A n xs :=
 ⟨h.1,fun hn=>by
   obtain ⟨b,o,e,hb,hc⟩:=h.2 hn
   exact ⟨b,o,e,by omega,fun k x hx=>hQ.2 _ _ _ _ _ _ (hc k x hx) hB⟩⟩
theorem Sq.ext (h:Sq Q size w B A n xs) (hQ:Abides Q) (hb:Below w.heap.size w w') (hB:B≤w.heap.size):Sq Q size w' B A n xs:=h.keep hQ fun b o hp=>hb.cell (p:=⟨b,o,none⟩) (by show b<_;omega)
theorem Sq.now (h:Sq Q size w w.heap.size A n xs) (hQ:Abides Q) (hb:Below w.heap.size w w'):Sq Q size w' w'.heap.size A n xs:=(h.ext hQ hb lr_).more hQ hb.size
end
def QP (w:World) (_ b o:Nat) (p:Ppr):Prop:=w.cell? ⟨b,o,none⟩=some (.int .i64 p.id)∧w.cell? ⟨b,o+1,none⟩=some (.int .i64 p.lv)
def QS (w:World) (_ b o:Nat) (s:Sgt):Prop :=
 w.cell? ⟨b,o,none⟩=some (.int .i64 s.src)∧w.cell? ⟨b,o+1,none⟩=some (.int .i64 s.per)∧w.cell? ⟨b,o+2,none⟩=some (.int .i64 s.pap)∧w.cell? ⟨b,o+3,none⟩=some (.int .i64 s.leaf)∧w.cell? ⟨b,o+4,none⟩=some (.int .i64 s.day)∧w.cell? ⟨b,o+5,none⟩=some (.int .i64 s.kn)∧w.cell? ⟨b,o+6,none⟩=some (.int .i64 s.un)
def QR (w:World) (B b o:Nat) (r:Rcp):Prop:=∃ A n c,
 (w.cell? ⟨b,o,none⟩=some (.int .i64 r.src)∧w.cell? ⟨b,o+1,none⟩=some (.int .i64 r.bor)∧w.cell? ⟨b,o+2,none⟩=some (.int .i64 r.pap)∧w.cell? ⟨b,o+3,none⟩=some (.slice A n c)∧w.cell? ⟨b,o+4,none⟩=some (.int .i64 r.day)∧w.cell? ⟨b,o+5,none⟩=some (.int .i64 r.kn)∧w.cell? ⟨b,o+6,none⟩=some (.int .i64 r.un)) ∧
 (Is w B A n r.lv∧n≤c∧c≤maxLen)
def QT (w:World) (B b o:Nat) (r:Rtn):Prop:=∃ A n c,
 (w.cell? ⟨b,o,none⟩=some (.int .i64 r.src)∧w.cell? ⟨b,o+1,none⟩=some (.int .i64 r.rcp)∧w.cell? ⟨b,o+2,none⟩=some (.int .i64 r.per)∧w.cell? ⟨b,o+3,none⟩=some (.slice A n c)∧w.cell? ⟨b,o+4,none⟩=some (.int .i64 r.lo)∧w.cell? ⟨b,o+5,none⟩=some (.int .i64 r.hi)∧w.cell? ⟨b,o+6,none⟩=some (.int .i64 r.kn)∧w.cell? ⟨b,o+7,none⟩=some (.int .i64 r.un)) ∧
 (Is w B A n r.lv∧n≤c∧c≤maxLen)
theorem abP:Abides QP:=⟨fun w w' B b o x h hb hk=>⟨(hk _ _ hb).trans h.1,(hk _ _ hb).trans h.2⟩,fun _ _ _ _ _ _ h _=>h⟩
theorem abS:Abides QS:=⟨fun w w' B b o x h hb hk=>by
 obtain ⟨h0,h1,h2,h3,h4,h5,h6⟩:=h
 exact ⟨(hk _ _ hb).trans h0,(hk _ _ hb).trans h1,(hk _ _ hb).trans h2,(hk _ _ hb).trans h3,(hk _ _ hb).trans h4,(hk _ _ hb).trans h5,(hk _ _ hb).trans h6⟩,fun _ _ _ _ _ _ h _=>h⟩
theorem abR:Abides QR:=⟨fun w w' B b o x h hb hk=>by
 obtain ⟨A,n,c,⟨h0,h1,h2,h3,h4,h5,h6⟩,hi,hc⟩:=h
 exact ⟨A,n,c,⟨(hk _ _ hb).trans h0,(hk _ _ hb).trans h1,(hk _ _ hb).trans h2,(hk _ _ hb).trans h3,(hk _ _ hb).trans h4,(hk _ _ hb).trans h5,(hk _ _ hb).trans h6⟩,Rd.keep hi hk,hc⟩,fun _ _ _ _ _ _ h hB=>by
 obtain ⟨A,n,c,h0,hi,hc⟩:=h
 exact ⟨A,n,c,h0,Is.more hi hB,hc⟩⟩
theorem abT:Abides QT:=⟨fun w w' B b o x h hb hk=>by
 obtain ⟨A,n,c,⟨h0,h1,h2,h3,h4,h5,h6,h7⟩,hi,hc⟩:=h
 exact ⟨A,n,c,⟨(hk _ _ hb).trans h0,(hk _ _ hb).trans h1,(hk _ _ hb).trans h2,(hk _ _ hb).trans h3,(hk _ _ hb).trans h4,(hk _ _ hb).trans h5,(hk _ _ hb).trans h6,(hk _ _ hb).trans h7⟩,Rd.keep hi hk,hc⟩,fun _ _ _ _ _ _ h hB=>by
 obtain ⟨A,n,c,h0,hi,hc⟩:=h
 exact ⟨A,n,c,h0,Is.more hi hB,hc⟩⟩
abbrev Pps:=Sq QP 2
abbrev Rcs:=Sq QR 7
abbrev Rts:=Sq QT 8
abbrev Sgs:=Sq QS 7
structure Led where
 pp:List Ppr
 rc:List Rcp
 rt:List Rtn
 sg:List Sgt
structure Lsl where
 (pA:Option Addr) (pn pc:Nat)
 (rA:Option Addr) (rn rc:Nat)
 (tA:Option Addr) (tn tc:Nat)
 (sA:Option Addr) (sn sc:Nat)
structure LedIn (w:World) (B:Nat) (x:Lsl) (l:Led):Prop where
 p:Pps w B x.pA x.pn l.pp
 r:Rcs w B x.rA x.rn l.rc
 t:Rts w B x.tA x.tn l.rt
 s:Sgs w B x.sA x.sn l.sg
theorem LedIn.now {w w':World} {x:Lsl} {l:Led} (h:LedIn w w.heap.size x l) (hb:Below w.heap.size w w'):LedIn w' w'.heap.size x l:=⟨h.p.now abP hb,h.r.now abR hb,h.t.now abT hb,h.s.now abS hb⟩
structure Lsl.fit (x:Lsl):Prop where
 p:x.pn≤x.pc∧x.pc≤maxLen
 r:x.rn≤x.rc∧x.rc≤maxLen
 t:x.tn≤x.tc∧x.tc≤maxLen
 s:x.sn≤x.sc∧x.sc≤maxLen
end Go.Proofs.YtoiompoapikkbaaGreat
