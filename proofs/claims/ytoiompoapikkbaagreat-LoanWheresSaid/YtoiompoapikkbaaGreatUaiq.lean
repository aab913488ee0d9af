/- Layer 2 of the texts that LoanWheres takes: Uaiq. -/
import Derived.Test.YtoiompoapikkbaaGreatUabq
import Derived.Test.YtoiompoapikkbaaGreatUacq
set_option linter.unusedVariables false
set_option linter.unusedSimpArgs false
/- Layer 2: leaves, by the reference and by the program. -/
namespace Go.Proofs.YtoiompoapikkbaaGreat
open Go.RowKit
theorem r_In_v (n lo hi:Int) (v:Bool) (w:World) (h:withinB n lo hi=v) :
 Calls Tryz.prog 73 #[.int .i64 n,.int .i64 lo,.int .i64 hi] w fun e w'=>e=.returned (.bool v)∧w=w':=h ▸ r_In2 n lo hi w
set_option maxHeartbeats 2000000 in
theorem r_areLeaves2 (l:List Int) (A:Option Addr) (n c:Nat) (w:World) (hn:n≤9223372036854775807) (hd:Is w w.heap.size A n l) :
 Calls Tryz.prog 80 #[.slice A n c] w fun e w'=>e=.returned (.bool (leavesB l))∧Below w.heap.size w w':=by
 have hlen:=hd.len
 have HD:=Lib.hid hd
 have HL:=Lib.hid hlen
 clear hd hlen
 go_enter Tryz.func80,Tryz.ntmps80
 go_wp2
 go_loopw [3] (fun i wr=>∃ k:Nat,k≤n∧i=.int .i64 k∧(List.range k).all (valAt id leafB l)=true∧Below w.heap.size w wr) (fun i _=>n - (intOf i).toNat)
 case atStart=>exact ⟨0,by omega,rfl,rfl,Below.refl _ _⟩
 case round =>
  obtain ⟨k,hk,rfl,hall,hB⟩:=hrel
  have HA:=Lib.hid hall
  clear hall
  by_cases hlt:k<n
  ·obtain ⟨b,o,x,rfl,hb,hx,hc0⟩:=(Is.ext HD.out hB (Nat.le_refl _)).at_ hlt
   have HX:=Lib.hid hx
   clear hx
   have hs0:w.heap.size≤wr.heap.size:=hB.size
   have hbr:b<wr.heap.size:=by omega
   cases hin:withinB x 1 30 with
   | false =>
     have hf:Hid (valAt id leafB l k=false):=by
      show _=_
      cases k with
      | zero=>simp [valAt,HX.out,leafB,hin]
      | succ j=>cases hj:l[j]? <;> simp [valAt,HX.out,leafB,hin,hj]
     have HI:=Lib.hid hin
     clear hin
     go_wp2_with fail
     (refine rg_ ?_;(repeat (go_big_quiet_step ((first | (go_at_call 73;exact Calls.grow_same (r_In_v _ _ _ _ _ HI.out))))));refine qn_ fun w1 hb1 hc1 hf1=>?_)
     go_wp2_with fail
     go_ret
     exact ⟨ret_bool (by rw [leavesB,valB,val_false (by rw [HL.out];exact hlt) hf.out];simp),Below.then_ hB hb1⟩
   | true =>
     have HI:=Lib.hid hin
     clear hin
     by_cases hk0:k=0
     ·have hf:Hid (valAt id leafB l k=true):=by
       show _=_
       have h1:=HX.out
       rw [hk0] at h1 ⊢
       simp [valAt,h1,leafB,HI.out]
      have hk2:decide (0<k)=false:=by simp;omega
      clear hk0
      go_wp2_with fail
      (refine rg_ ?_;(repeat (go_big_quiet_step ((first | (go_at_call 73;exact Calls.grow_same (r_In_v _ _ _ _ _ HI.out))))));refine qn_ fun w1 hb1 hc1 hf1=>?_)
      go_wp2_with fail
      go_roundw
      case rel=>exact ⟨k+1,by omega,by go_num,val_succ HA.out hf.out,Below.then_ hB hb1⟩
      case measure=>exact ms_
     ·obtain ⟨j,rfl⟩:∃ j,k=j+1:=⟨k - 1,by omega⟩
      obtain ⟨b',o',y,e',_,hy,hc1⟩:=(Is.ext HD.out hB (Nat.le_refl _)).at_ (k:=j) (by omega)
      obtain ⟨rfl,rfl⟩:b=b'∧o=o':=by simpa using e'
      have HY:=Lib.hid hy
      clear hy e' hk0
      by_cases hxy:y<x
      ·have hf:Hid (valAt id leafB l (j+1)=true):=by show _=_;simp [valAt,HX.out,HY.out,leafB,HI.out,hxy]
       have hxd:decide (x≤y)=false:=by simp;omega
       clear hxy
       go_wp2_with fail
       (refine rg_ ?_;(repeat (go_big_quiet_step ((first | (go_at_call 73;exact Calls.grow_same (r_In_v _ _ _ _ _ HI.out))))));refine qn_ fun w1 hb1 hc1 hf1=>?_)
       go_wp2_with fail
       go_roundw
       case rel=>exact ⟨j+1+1,by omega,by go_num,val_succ HA.out hf.out,Below.then_ hB hb1⟩
       case measure=>exact ms_
      ·have hf:Hid (valAt id leafB l (j+1)=false):=by show _=_;simp [valAt,HX.out,HY.out,leafB,HI.out];omega
       have hxd:decide (x≤y)=true:=by simp;omega
       clear hxy
       go_wp2_with fail
       (refine rg_ ?_;(repeat (go_big_quiet_step ((first | (go_at_call 73;exact Calls.grow_same (r_In_v _ _ _ _ _ HI.out))))));refine qn_ fun w1 hb1 hc1 hf1=>?_)
       go_wp2_with fail
       go_ret
       exact ⟨ret_bool (by rw [leavesB,valB,val_false (by rw [HL.out];exact hlt) hf.out];simp),Below.then_ hB hb1⟩
  ·have hkn:k=n:=by omega
   have HKn:=Lib.hid hkn
   clear hkn
   go_wp2_with (go_at_call 73;refine (r_In2 _ _ _ _).mono ?_;rintro e w1 ⟨rfl,rfl⟩)
   go_ret
   have h1:l.length=k:=by rw [HL.out,HKn.out]
   exact ⟨ret_bool (by rw [leavesB,valB,h1,HA.out,withinB,Bool.eq_iff_iff];simp;omega),hB⟩
end Go.Proofs.YtoiompoapikkbaaGreat
/- Layer 2: slices of papers, receipts, returns and sights that are read; ledgers. -/
namespace Go.Proofs.YtoiompoapikkbaaGreat
open Go.RowKit
def Sq {α:Type} (Q:World→Nat→Nat→Nat→α→Prop) (size:Nat) (w:World) (B:Nat) (A:Option Addr) (n:Nat) (xs:List α):Prop :=
 xs.length=n∧(0<n→∃ b o,A=some ⟨b,o,none⟩∧b<B∧∀ k x,xs[k]?=some x→Q w B b (o+k*size) x)
def Abides {α:Type} (Q:World→Nat→Nat→Nat→α→Prop):Prop :=
 (∀ w w' B b o x,Q w B b o x→b<B→(∀ b o,b<B→w'.cell? ⟨b,o,none⟩=w.cell? ⟨b,o,none⟩)→Q w' B b o x)∧(∀ w B B' b o x,Q w B b o x→B≤B'→Q w B' b o x)
section
variable {α:Type} {Q:World→Nat→Nat→Nat→α→Prop} {size:Nat} {w w':World} {B B' n:Nat} {A:Option Addr} {xs:List α}
theorem Sq.len (h:Sq Q size w B A n xs):xs.length=n:=h.1
theorem Sq.at_ (h:Sq Q size w B A n xs) {k:Nat} (hk:k<n):∃ b o x,A=some ⟨b,o,none⟩∧b<B∧xs[k]?=some x∧Q w B b (o+k*size) x:=by
 obtain ⟨b,o,e,hb,hc⟩:=h.2 (by omega)
 have hd:xs[k]?=some (xs[k]'(by rw [h.1];exact hk)):=List.getElem?_eq_getElem _
 exact ⟨b,o,_,e,hb,hd,hc k _ hd⟩
theorem Sq.keep (h:Sq Q size w B A n xs) (hQ:Abides Q) (hk:∀ b o,b<B→w'.cell? ⟨b,o,none⟩=w.cell? ⟨b,o,none⟩):Sq Q size w' B A n xs :=
 ⟨h.1,fun hn=>by
   obtain ⟨b,o,e,hb,hc⟩:=h.2 hn
   exact ⟨b,o,e,hb,fun k x hx=>hQ.1 _ _ _ _ _ _ (hc k x hx) hb hk⟩⟩
theorem Sq.more (h:Sq Q size w B A n xs) (hQ:Abides Q) (hB:B≤B'):Sq Q size w B' A n xs :=
 ⟨h.1,fun hn=>by
   obtain ⟨b,o,e,hb,hc⟩:=h.2 hn
   exact ⟨b,o,e,by omega,fun k x hx=>hQ.2 _ _ _ _ _ _ (hc k x hx) hB⟩⟩
theorem Sq.ext (h:Sq Q size w B A n xs) (hQ:Abides Q) (hb:Below w.heap.size w w') (hB:B≤w.heap.size):Sq Q size w' B A n xs:=h.keep hQ fun b o hp=>hb.cell (p:=⟨b,o,none⟩) (by show b<_;omega)
theorem Sq.now (h:Sq Q size w w.heap.size A n xs) (hQ:Abides Q) (hb:Below w.heap.size w w'):Sq Q size w' w'.heap.size A n xs:=(h.ext hQ hb (Nat.le_refl _)).more hQ hb.size
theorem Sq.nil_:Sq Q size w B A 0 []:=⟨rfl,fun h=>absurd h (by omega)⟩
end
def QP (w:World) (_ b o:Nat) (p:Ppr):Prop:=w.cell? ⟨b,o,none⟩=some (.int .i64 p.id)∧w.cell? ⟨b,o+1,none⟩=some (.int .i64 p.lv)
def QS (w:World) (_ b o:Nat) (s:Sgt):Prop :=
 w.cell? ⟨b,o,none⟩=some (.int .i64 s.src)∧w.cell? ⟨b,o+1,none⟩=some (.int .i64 s.per)∧w.cell? ⟨b,o+2,none⟩=some (.int .i64 s.pap)∧w.cell? ⟨b,o+3,none⟩=some (.int .i64 s.leaf)∧w.cell? ⟨b,o+4,none⟩=some (.int .i64 s.day)∧w.cell? ⟨b,o+5,none⟩=some (.int .i64 s.kn)∧w.cell? ⟨b,o+6,none⟩=some (.int .i64 s.un)
def QR (w:World) (B b o:Nat) (r:Rcp):Prop:=∃ A n c,
 (w.cell? ⟨b,o,none⟩=some (.int .i64 r.src)∧w.cell? ⟨b,o+1,none⟩=some (.int .i64 r.bor)∧w.cell? ⟨b,o+2,none⟩=some (.int .i64 r.pap)∧w.cell? ⟨b,o+3,none⟩=some (.slice A n c)∧w.cell? ⟨b,o+4,none⟩=some (.int .i64 r.day)∧w.cell? ⟨b,o+5,none⟩=some (.int .i64 r.kn)∧w.cell? ⟨b,o+6,none⟩=some (.int .i64 r.un)) ∧
 (Is w B A n r.lv∧n≤c∧c≤maxLen)
def QT (w:World) (B b o:Nat) (r:Rtn):Prop:=∃ A n c,
 (w.cell? ⟨b,o,none⟩=some (.int .i64 r.src)∧w.cell? ⟨b,o+1,none⟩=some (.int .i64 r.rcp)∧w.cell? ⟨b,o+2,none⟩=some (.int .i64 r.per)∧w.cell? ⟨b,o+3,none⟩=some (.slice A n c)∧w.cell? ⟨b,o+4,none⟩=some (.int .i64 r.lo)∧w.cell? ⟨b,o+5,none⟩=some (.int .i64 r.hi)∧w.cell? ⟨b,o+6,none⟩=some (.int .i64 r.kn)∧w.cell? ⟨b,o+7,none⟩=some (.int .i64 r.un)) ∧
 (Is w B A n r.lv∧n≤c∧c≤maxLen)
theorem abP:Abides QP:=⟨fun w w' B b o x h hb hk=>⟨(hk _ _ hb).trans h.1,(hk _ _ hb).trans h.2⟩,fun _ _ _ _ _ _ h _=>h⟩
theorem abS:Abides QS:=⟨fun w w' B b o x h hb hk=>by
 obtain ⟨h0,h1,h2,h3,h4,h5,h6⟩:=h
 exact ⟨(hk _ _ hb).trans h0,(hk _ _ hb).trans h1,(hk _ _ hb).trans h2,(hk _ _ hb).trans h3,(hk _ _ hb).trans h4,(hk _ _ hb).trans h5,(hk _ _ hb).trans h6⟩,fun _ _ _ _ _ _ h _=>h⟩
theorem abR:Abides QR:=⟨fun w w' B b o x h hb hk=>by
 obtain ⟨A,n,c,⟨h0,h1,h2,h3,h4,h5,h6⟩,hi,hc⟩:=h
 exact ⟨A,n,c,⟨(hk _ _ hb).trans h0,(hk _ _ hb).trans h1,(hk _ _ hb).trans h2,(hk _ _ hb).trans h3,(hk _ _ hb).trans h4,(hk _ _ hb).trans h5,(hk _ _ hb).trans h6⟩,Rd.keep hi hk,hc⟩,fun _ _ _ _ _ _ h hB=>by
 obtain ⟨A,n,c,h0,hi,hc⟩:=h
 exact ⟨A,n,c,h0,Is.more hi hB,hc⟩⟩
theorem abT:Abides QT:=⟨fun w w' B b o x h hb hk=>by
 obtain ⟨A,n,c,⟨h0,h1,h2,h3,h4,h5,h6,h7⟩,hi,hc⟩:=h
 exact ⟨A,n,c,⟨(hk _ _ hb).trans h0,(hk _ _ hb).trans h1,(hk _ _ hb).trans h2,(hk _ _ hb).trans h3,(hk _ _ hb).trans h4,(hk _ _ hb).trans h5,(hk _ _ hb).trans h6,(hk _ _ hb).trans h7⟩,Rd.keep hi hk,hc⟩,fun _ _ _ _ _ _ h hB=>by
 obtain ⟨A,n,c,h0,hi,hc⟩:=h
 exact ⟨A,n,c,h0,Is.more hi hB,hc⟩⟩
abbrev Pps:=Sq QP 2
abbrev Rcs:=Sq QR 7
abbrev Rts:=Sq QT 8
abbrev Sgs:=Sq QS 7
structure Led where
 pp:List Ppr
 rc:List Rcp
 rt:List Rtn
 sg:List Sgt
structure Lsl where
 (pA:Option Addr) (pn pc:Nat)
 (rA:Option Addr) (rn rc:Nat)
 (tA:Option Addr) (tn tc:Nat)
 (sA:Option Addr) (sn sc:Nat)
structure LedIn (w:World) (B:Nat) (x:Lsl) (l:Led):Prop where
 p:Pps w B x.pA x.pn l.pp
 r:Rcs w B x.rA x.rn l.rc
 t:Rts w B x.tA x.tn l.rt
 s:Sgs w B x.sA x.sn l.sg
theorem LedIn.now {w w':World} {x:Lsl} {l:Led} (h:LedIn w w.heap.size x l) (hb:Below w.heap.size w w'):LedIn w' w'.heap.size x l:=⟨h.p.now abP hb,h.r.now abR hb,h.t.now abT hb,h.s.now abS hb⟩
theorem LedIn.ext {w w':World} {B:Nat} {x:Lsl} {l:Led} (h:LedIn w B x l) (hb:Below w.heap.size w w') (hB:B≤w.heap.size):LedIn w' B x l:=⟨h.p.ext abP hb hB,h.r.ext abR hb hB,h.t.ext abT hb hB,h.s.ext abS hb hB⟩
structure Lsl.fit (x:Lsl):Prop where
 p:x.pn≤x.pc∧x.pc≤maxLen
 r:x.rn≤x.rc∧x.rc≤maxLen
 t:x.tn≤x.tc∧x.tc≤maxLen
 s:x.sn≤x.sc∧x.sc≤maxLen
end Go.Proofs.YtoiompoapikkbaaGreat
/- Layer 2: the sources of a ledger, by the program and by the reference. -/
namespace Go.Proofs.YtoiompoapikkbaaGreat
open Go.RowKit
theorem infoI2:(Tryz.prog.info? 3).map (fun i=>(i.zero,i.size,i.bytes))=some (some (.int .i64 0),1,8):=by kernel_rfl
def intL (xs:List Int):List Value:=xs.map fun x=>.int .i64 x
def srcL (l:Led):List Int:=l.rc.map Rcp.src ++ (l.rt.map Rtn.src ++ l.sg.map Sgt.src)
def RetO (xs:List Int) (w:World) (e:Ending) (w':World):Prop:=∃ v,e=.returned v∧Below w.heap.size w w'∧w'.ownsRow w.heap.size 3 1 v xs.length (intL xs)
theorem own_dn {W:World} {base base' size n:Nat} {e:TypeId} {v:Value} {xs:List Value} (h:W.ownsRow base e size v n xs) (hb:base'≤base):W.ownsRow base' e size v n xs :=
 ⟨h.1,h.2.imp id fun ⟨g,cap,cur,hv,hB,r⟩=>⟨g,cap,cur,hv,Nat.le_trans hb hB,r⟩⟩
theorem OwnB.below {w W W0 w2:World} {B n:Nat} {e:TypeId} {v:Value} {xs:List Value} (hB:Below B w W) (ho:W0.ownsRow B e 1 v n xs) (hs:B≤W.heap.size) (hg:W.grownBy w2 v.ownBlock):Below B w w2 :=
 hB.grown hg hs fun k ek=>own_base ho ek
theorem RetO.mk' {l:Led} {w wr W:World} {a b c:Nat} {v:Value} (h:wr.ownsRow (w.heap.size+1) 3 1 v (a+b+c) (intL (srcL l))) (hB:Below (w.heap.size+1) W wr) (h1:l.rc.length=a) (h2:l.rt.length=b) (h3:l.sg.length=c) (hW:Below w.heap.size w W:=by exact bel_):RetO (srcL l) w (.returned v) wr:=by
 refine ⟨v,rfl,hW.trans (hB.mono (Nat.le_succ _)),?_⟩
 have e:(srcL l).length=a+b+c:=by simp [srcL,h1,h2,h3];omega
 rw [e]
 exact own_dn h (Nat.le_succ _)
set_option maxRecDepth 10000 in
set_option maxHeartbeats 8000000 in
theorem p_sources (l:Led) (x:Lsl) (w:World) (hr:x.rn≤60) (ht:x.tn≤60) (hs:x.sn≤60) (hd:LedIn w w.heap.size x l) :
 Calls Tryz.prog 58 #[.agg #[.slice x.pA x.pn x.pc,.slice x.rA x.rn x.rc,.slice x.tA x.tn x.tc,.slice x.sA x.sn x.sc]] w (RetO (srcL l) w):=by
 obtain ⟨i0,hi,hz0,hz1,hz2⟩:=info_parts infoI2
 have hl1:=hd.r.len
 have hl2:=hd.t.len
 have hl3:=hd.s.len
 have HD:=Lib.hid (hd.now ((Below.refl w.heap.size w).alloc (Nat.le_refl _) (.cells #[.slice x.pA x.pn x.pc,.slice x.rA x.rn x.rc,.slice x.tA x.tn x.tc,.slice x.sA x.sn x.sc] 27)))
 have HL1:=Lib.hid hl1
 have HL2:=Lib.hid hl2
 have HL3:=Lib.hid hl3
 clear hl1 hl2 hl3 hd
 go_enter Tryz.func58,Tryz.ntmps58
 go_wp2
 go_loopw [3,13] (fun v i wr=>∃ k:Nat,k≤x.rn∧i=.int .i64 k∧wr.ownsRow (w.heap.size+1) 3 1 v (0+k) (intL ([] ++ (l.rc.take k).map Rcp.src))∧Below (w.heap.size+1) (w.alloc (.cells #[.slice x.pA x.pn x.pc,.slice x.rA x.rn x.rc,.slice x.tA x.tn x.tc,.slice x.sA x.sn x.sc] 27)) wr) (fun _ i _=>x.rn - (intOf i).toNat)
 case atStart=>exact ⟨0,by omega,rfl,World.ownsRow_nil _ _ _ _,by exact bel_⟩
 case round =>
  obtain ⟨k1,hk0,rfl,hown,hB⟩:=hrel
  have hs0:w.heap.size+1≤wr.heap.size:=by have h:=hB.size;simp at h;omega
  obtain ⟨hcw,hfw⟩:=bcell (W:=(w.alloc (.cells #[.slice x.pA x.pn x.pc,.slice x.rA x.rn x.rc,.slice x.tA x.tn x.tc,.slice x.sA x.sn x.sc] 27))) (by simpa using hB)
  by_cases hlt:k1<x.rn
  ·obtain ⟨b,o,e,hA,hb,he,hq⟩:=(Sq.ext HD.out.r abR (w':=wr) (by simpa using hB) (Nat.le_refl _)).at_ hlt
   obtain ⟨A1,n1,c1,⟨a0,a1,a2,a3,a4,a5,a6⟩,_⟩:=hq
   have hbr:b<wr.heap.size:=by simp at hb;omega
   have HE:Hid (intL ([] ++ (l.rc.take (k1+1)).map Rcp.src)=intL ([] ++ (l.rc.take k1).map Rcp.src) ++ [.int .i64 e.src]):=by
    show _=_
    rw [take_snoc_some he]
    simp [intL]
   have HO:=Lib.hid hown
   have HB:=Lib.hid hB
   clear he hB
   go_wp2_with (at_builtin;refine wpList_append_own _ rfl (.tmp 17) (.tmp 20) 30 rfl (w.heap.size+1) 3 i0 _ 1 8 Tryz.underlying30 hi hz0 hz1 hz2 rfl (by decide) _ _ _ rfl ((hown.alloc _).alloc _) ⟨wr.heap.size+1,0,none⟩ 1 1 [.int .i64 e.src] rfl rfl ?c1 ?c2 ?c3 ?c4 ?c5 ?_;rotate_left 5;intro v' w2 hown2 hgrow2 _)
   case c1=>intro j u hj;match j,hj with | 0,hj=>simp at hj;subst hj;simp [Addr.add]
   case c2=>simp [Value.oneCell']
   case c3=>unfold maxLen;omega
   case c4=>omega
   case c5=>simp;omega
   go_roundw
   case rel =>
    (repeat apply Exists.intro)
    refine ⟨⟨k1+1,by omega,by go_num,by rw [HE.out];exact hown2,OwnB.below (by have:=HB.out;exact bel_) (HO.out) (by simp;omega) hgrow2⟩,?_⟩
    first | rfl | (rw [hA] <;> rfl) | rw [hA]
   case measure=>exact ms_
  ·have hkn:Hid (k1=x.rn):=by show _=_;omega
   have HBW:=Lib.hid hB
   have HOW:=hown
   rw [hkn.out,List.take_of_length_le (by rw [HL1.out];exact Nat.le_refl _)] at HOW
   have HOW:=Lib.hid HOW
   clear hB hown
   go_wp2
   go_loopw [3,26] (fun v i wr=>∃ k:Nat,k≤x.tn∧i=.int .i64 k∧wr.ownsRow (w.heap.size+1) 3 1 v (0+x.rn+k) (intL (([] ++ l.rc.map Rcp.src) ++ (l.rt.take k).map Rtn.src))∧Below (w.heap.size+1) (w.alloc (.cells #[.slice x.pA x.pn x.pc,.slice x.rA x.rn x.rc,.slice x.tA x.tn x.tc,.slice x.sA x.sn x.sc] 27)) wr) (fun _ i _=>x.tn - (intOf i).toNat)
   case atStart=>exact ⟨0,by omega,rfl,by simpa using HOW.out,HBW.out⟩
   case round =>
    obtain ⟨k2,hk1,rfl,hown,hB⟩:=hrel
    have hs0:w.heap.size+1≤wr.heap.size:=by have h:=hB.size;simp at h;omega
    obtain ⟨hcw,hfw⟩:=bcell (W:=(w.alloc (.cells #[.slice x.pA x.pn x.pc,.slice x.rA x.rn x.rc,.slice x.tA x.tn x.tc,.slice x.sA x.sn x.sc] 27))) (by simpa using hB)
    by_cases hlt:k2<x.tn
    ·obtain ⟨b,o,e,hA,hb,he,hq⟩:=(Sq.ext HD.out.t abT (w':=wr) (by simpa using hB) (Nat.le_refl _)).at_ hlt
     obtain ⟨A1,n1,c1,⟨a0,a1,a2,a3,a4,a5,a6,a7⟩,_⟩:=hq
     have hbr:b<wr.heap.size:=by simp at hb;omega
     have HE:Hid (intL (([] ++ l.rc.map Rcp.src) ++ (l.rt.take (k2+1)).map Rtn.src)=intL (([] ++ l.rc.map Rcp.src) ++ (l.rt.take k2).map Rtn.src) ++ [.int .i64 e.src]):=by
      show _=_
      rw [take_snoc_some he]
      simp [intL]
     have HO:=Lib.hid hown
     have HB:=Lib.hid hB
     clear he hB
     go_wp2_with (at_builtin;refine wpList_append_own _ rfl (.tmp 30) (.tmp 33) 30 rfl (w.heap.size+1) 3 i0 _ 1 8 Tryz.underlying30 hi hz0 hz1 hz2 rfl (by decide) _ _ _ rfl ((hown.alloc _).alloc _) ⟨wr.heap.size+1,0,none⟩ 1 1 [.int .i64 e.src] rfl rfl ?c1 ?c2 ?c3 ?c4 ?c5 ?_;rotate_left 5;intro v' w2 hown2 hgrow2 _)
     case c1=>intro j u hj;match j,hj with | 0,hj=>simp at hj;subst hj;simp [Addr.add]
     case c2=>simp [Value.oneCell']
     case c3=>unfold maxLen;omega
     case c4=>omega
     case c5=>simp;omega
     go_roundw
     case rel =>
      (repeat apply Exists.intro)
      refine ⟨⟨k2+1,by omega,by go_num,by rw [HE.out];exact hown2,OwnB.below (by have:=HB.out;exact bel_) (HO.out) (by simp;omega) hgrow2⟩,?_⟩
      first | rfl | (rw [hA] <;> rfl) | rw [hA]
     case measure=>exact ms_
    ·have hkn:Hid (k2=x.tn):=by show _=_;omega
     have HBW:=Lib.hid hB
     have HOW:=hown
     rw [hkn.out,List.take_of_length_le (by rw [HL2.out];exact Nat.le_refl _)] at HOW
     have HOW:=Lib.hid HOW
     clear hB hown
     go_wp2
     go_loopw [3,39] (fun v i wr=>∃ k:Nat,k≤x.sn∧i=.int .i64 k∧wr.ownsRow (w.heap.size+1) 3 1 v (0+x.rn+x.tn+k) (intL ((([] ++ l.rc.map Rcp.src) ++ l.rt.map Rtn.src) ++ (l.sg.take k).map Sgt.src))∧Below (w.heap.size+1) (w.alloc (.cells #[.slice x.pA x.pn x.pc,.slice x.rA x.rn x.rc,.slice x.tA x.tn x.tc,.slice x.sA x.sn x.sc] 27)) wr) (fun _ i _=>x.sn - (intOf i).toNat)
     case atStart=>exact ⟨0,by omega,rfl,by simpa using HOW.out,HBW.out⟩
     case round =>
      obtain ⟨k3,hk2,rfl,hown,hB⟩:=hrel
      have hs0:w.heap.size+1≤wr.heap.size:=by have h:=hB.size;simp at h;omega
      obtain ⟨hcw,hfw⟩:=bcell (W:=(w.alloc (.cells #[.slice x.pA x.pn x.pc,.slice x.rA x.rn x.rc,.slice x.tA x.tn x.tc,.slice x.sA x.sn x.sc] 27))) (by simpa using hB)
      by_cases hlt:k3<x.sn
      ·obtain ⟨b,o,e,hA,hb,he,hq⟩:=(Sq.ext HD.out.s abS (w':=wr) (by simpa using hB) (Nat.le_refl _)).at_ hlt
       obtain ⟨a0,a1,a2,a3,a4,a5,a6⟩:=hq
       have hbr:b<wr.heap.size:=by simp at hb;omega
       have HE:Hid (intL ((([] ++ l.rc.map Rcp.src) ++ l.rt.map Rtn.src) ++ (l.sg.take (k3+1)).map Sgt.src)=intL ((([] ++ l.rc.map Rcp.src) ++ l.rt.map Rtn.src) ++ (l.sg.take k3).map Sgt.src) ++ [.int .i64 e.src]):=by
        show _=_
        rw [take_snoc_some he]
        simp [intL]
       have HO:=Lib.hid hown
       have HB:=Lib.hid hB
       clear he hB
       go_wp2_with (at_builtin;refine wpList_append_own _ rfl (.tmp 43) (.tmp 46) 30 rfl (w.heap.size+1) 3 i0 _ 1 8 Tryz.underlying30 hi hz0 hz1 hz2 rfl (by decide) _ _ _ rfl ((hown.alloc _).alloc _) ⟨wr.heap.size+1,0,none⟩ 1 1 [.int .i64 e.src] rfl rfl ?c1 ?c2 ?c3 ?c4 ?c5 ?_;rotate_left 5;intro v' w2 hown2 hgrow2 _)
       case c1=>intro j u hj;match j,hj with | 0,hj=>simp at hj;subst hj;simp [Addr.add]
       case c2=>simp [Value.oneCell']
       case c3=>unfold maxLen;omega
       case c4=>omega
       case c5=>simp;omega
       go_roundw
       case rel =>
        (repeat apply Exists.intro)
        refine ⟨⟨k3+1,by omega,by go_num,by rw [HE.out];exact hown2,OwnB.below (by have:=HB.out;exact bel_) (HO.out) (by simp;omega) hgrow2⟩,?_⟩
        first | rfl | (rw [hA] <;> rfl) | rw [hA]
       case measure=>exact ms_
      ·have hkn:Hid (k3=x.sn):=by show _=_;omega
       have HBW:=Lib.hid hB
       have HOW:=hown
       rw [hkn.out,List.take_of_length_le (by rw [HL3.out];exact Nat.le_refl _)] at HOW
       have HOW:=Lib.hid HOW
       clear hB hown
       go_wp2
       go_ret
       exact RetO.mk' (by simpa [srcL] using HOW.out) HBW.out HL1.out HL2.out HL3.out
set_option maxRecDepth 10000 in
set_option maxHeartbeats 8000000 in
theorem r_sources (l:Led) (x:Lsl) (w:World) (hr:x.rn≤60) (ht:x.tn≤60) (hs:x.sn≤60) (hd:LedIn w w.heap.size x l) :
 Calls Tryz.prog 66 #[.agg #[.slice x.pA x.pn x.pc,.slice x.rA x.rn x.rc,.slice x.tA x.tn x.tc,.slice x.sA x.sn x.sc]] w (RetO (srcL l) w):=by
 obtain ⟨i0,hi,hz0,hz1,hz2⟩:=info_parts infoI2
 have hl1:=hd.r.len
 have hl2:=hd.t.len
 have hl3:=hd.s.len
 have HD:=Lib.hid (hd.now ((Below.refl w.heap.size w).alloc (Nat.le_refl _) (.cells #[.slice x.pA x.pn x.pc,.slice x.rA x.rn x.rc,.slice x.tA x.tn x.tc,.slice x.sA x.sn x.sc] 27)))
 have HL1:=Lib.hid hl1
 have HL2:=Lib.hid hl2
 have HL3:=Lib.hid hl3
 clear hl1 hl2 hl3 hd
 go_enter Tryz.func66,Tryz.ntmps66
 go_wp2
 go_loopw [3,4] (fun v i wr=>∃ k:Nat,k≤x.rn∧i=.int .i64 k∧wr.ownsRow (w.heap.size+1) 3 1 v (0+k) (intL ([] ++ (l.rc.take k).map Rcp.src))∧Below (w.heap.size+1) (w.alloc (.cells #[.slice x.pA x.pn x.pc,.slice x.rA x.rn x.rc,.slice x.tA x.tn x.tc,.slice x.sA x.sn x.sc] 27)) wr) (fun _ i _=>x.rn - (intOf i).toNat)
 case atStart=>exact ⟨0,by omega,rfl,World.ownsRow_nil _ _ _ _,by exact bel_⟩
 case round =>
  obtain ⟨k1,hk0,rfl,hown,hB⟩:=hrel
  have hs0:w.heap.size+1≤wr.heap.size:=by have h:=hB.size;simp at h;omega
  obtain ⟨hcw,hfw⟩:=bcell (W:=(w.alloc (.cells #[.slice x.pA x.pn x.pc,.slice x.rA x.rn x.rc,.slice x.tA x.tn x.tc,.slice x.sA x.sn x.sc] 27))) (by simpa using hB)
  by_cases hlt:k1<x.rn
  ·obtain ⟨b,o,e,hA,hb,he,hq⟩:=(Sq.ext HD.out.r abR (w':=wr) (by simpa using hB) (Nat.le_refl _)).at_ hlt
   obtain ⟨A1,n1,c1,⟨a0,a1,a2,a3,a4,a5,a6⟩,_⟩:=hq
   have hbr:b<wr.heap.size:=by simp at hb;omega
   have HE:Hid (intL ([] ++ (l.rc.take (k1+1)).map Rcp.src)=intL ([] ++ (l.rc.take k1).map Rcp.src) ++ [.int .i64 e.src]):=by
    show _=_
    rw [take_snoc_some he]
    simp [intL]
   have HO:=Lib.hid hown
   have HB:=Lib.hid hB
   clear he hB
   go_wp2_with (at_builtin;refine wpList_append_own _ rfl (.tmp 14) (.tmp 21) 30 rfl (w.heap.size+1) 3 i0 _ 1 8 Tryz.underlying30 hi hz0 hz1 hz2 rfl (by decide) _ _ _ rfl (hown.alloc _) ⟨wr.heap.size,0,none⟩ 1 1 [.int .i64 e.src] rfl rfl ?c1 ?c2 ?c3 ?c4 ?c5 ?_;rotate_left 5;intro v' w2 hown2 hgrow2 _)
   case c1=>intro j u hj;match j,hj with | 0,hj=>simp at hj;subst hj;simp [Addr.add]
   case c2=>simp [Value.oneCell']
   case c3=>unfold maxLen;omega
   case c4=>omega
   case c5=>simp;omega
   go_roundw
   case rel =>
    (repeat apply Exists.intro)
    refine ⟨⟨k1+1,by omega,by go_num,by rw [HE.out];exact hown2,OwnB.below (by have:=HB.out;exact bel_) (HO.out) (by simp;omega) hgrow2⟩,?_⟩
    first | rfl | (rw [hA] <;> rfl) | rw [hA]
   case measure=>exact ms_
  ·have hkn:Hid (k1=x.rn):=by show _=_;omega
   have HBW:=Lib.hid hB
   have HOW:=hown
   rw [hkn.out,List.take_of_length_le (by rw [HL1.out];exact Nat.le_refl _)] at HOW
   have HOW:=Lib.hid HOW
   clear hB hown
   go_wp2
   go_loopw [3,5] (fun v i wr=>∃ k:Nat,k≤x.tn∧i=.int .i64 k∧wr.ownsRow (w.heap.size+1) 3 1 v (0+x.rn+k) (intL (([] ++ l.rc.map Rcp.src) ++ (l.rt.take k).map Rtn.src))∧Below (w.heap.size+1) (w.alloc (.cells #[.slice x.pA x.pn x.pc,.slice x.rA x.rn x.rc,.slice x.tA x.tn x.tc,.slice x.sA x.sn x.sc] 27)) wr) (fun _ i _=>x.tn - (intOf i).toNat)
   case atStart=>exact ⟨0,by omega,rfl,by simpa using HOW.out,HBW.out⟩
   case round =>
    obtain ⟨k2,hk1,rfl,hown,hB⟩:=hrel
    have hs0:w.heap.size+1≤wr.heap.size:=by have h:=hB.size;simp at h;omega
    obtain ⟨hcw,hfw⟩:=bcell (W:=(w.alloc (.cells #[.slice x.pA x.pn x.pc,.slice x.rA x.rn x.rc,.slice x.tA x.tn x.tc,.slice x.sA x.sn x.sc] 27))) (by simpa using hB)
    by_cases hlt:k2<x.tn
    ·obtain ⟨b,o,e,hA,hb,he,hq⟩:=(Sq.ext HD.out.t abT (w':=wr) (by simpa using hB) (Nat.le_refl _)).at_ hlt
     obtain ⟨A1,n1,c1,⟨a0,a1,a2,a3,a4,a5,a6,a7⟩,_⟩:=hq
     have hbr:b<wr.heap.size:=by simp at hb;omega
     have HE:Hid (intL (([] ++ l.rc.map Rcp.src) ++ (l.rt.take (k2+1)).map Rtn.src)=intL (([] ++ l.rc.map Rcp.src) ++ (l.rt.take k2).map Rtn.src) ++ [.int .i64 e.src]):=by
      show _=_
      rw [take_snoc_some he]
      simp [intL]
     have HO:=Lib.hid hown
     have HB:=Lib.hid hB
     clear he hB
     go_wp2_with (at_builtin;refine wpList_append_own _ rfl (.tmp 30) (.tmp 37) 30 rfl (w.heap.size+1) 3 i0 _ 1 8 Tryz.underlying30 hi hz0 hz1 hz2 rfl (by decide) _ _ _ rfl (hown.alloc _) ⟨wr.heap.size,0,none⟩ 1 1 [.int .i64 e.src] rfl rfl ?c1 ?c2 ?c3 ?c4 ?c5 ?_;rotate_left 5;intro v' w2 hown2 hgrow2 _)
     case c1=>intro j u hj;match j,hj with | 0,hj=>simp at hj;subst hj;simp [Addr.add]
     case c2=>simp [Value.oneCell']
     case c3=>unfold maxLen;omega
     case c4=>omega
     case c5=>simp;omega
     go_roundw
     case rel =>
      (repeat apply Exists.intro)
      refine ⟨⟨k2+1,by omega,by go_num,by rw [HE.out];exact hown2,OwnB.below (by have:=HB.out;exact bel_) (HO.out) (by simp;omega) hgrow2⟩,?_⟩
      first | rfl | (rw [hA] <;> rfl) | rw [hA]
     case measure=>exact ms_
    ·have hkn:Hid (k2=x.tn):=by show _=_;omega
     have HBW:=Lib.hid hB
     have HOW:=hown
     rw [hkn.out,List.take_of_length_le (by rw [HL2.out];exact Nat.le_refl _)] at HOW
     have HOW:=Lib.hid HOW
     clear hB hown
     go_wp2
     go_loopw [3,6] (fun v i wr=>∃ k:Nat,k≤x.sn∧i=.int .i64 k∧wr.ownsRow (w.heap.size+1) 3 1 v (0+x.rn+x.tn+k) (intL ((([] ++ l.rc.map Rcp.src) ++ l.rt.map Rtn.src) ++ (l.sg.take k).map Sgt.src))∧Below (w.heap.size+1) (w.alloc (.cells #[.slice x.pA x.pn x.pc,.slice x.rA x.rn x.rc,.slice x.tA x.tn x.tc,.slice x.sA x.sn x.sc] 27)) wr) (fun _ i _=>x.sn - (intOf i).toNat)
     case atStart=>exact ⟨0,by omega,rfl,by simpa using HOW.out,HBW.out⟩
     case round =>
      obtain ⟨k3,hk2,rfl,hown,hB⟩:=hrel
      have hs0:w.heap.size+1≤wr.heap.size:=by have h:=hB.size;simp at h;omega
      obtain ⟨hcw,hfw⟩:=bcell (W:=(w.alloc (.cells #[.slice x.pA x.pn x.pc,.slice x.rA x.rn x.rc,.slice x.tA x.tn x.tc,.slice x.sA x.sn x.sc] 27))) (by simpa using hB)
      by_cases hlt:k3<x.sn
      ·obtain ⟨b,o,e,hA,hb,he,hq⟩:=(Sq.ext HD.out.s abS (w':=wr) (by simpa using hB) (Nat.le_refl _)).at_ hlt
       obtain ⟨a0,a1,a2,a3,a4,a5,a6⟩:=hq
       have hbr:b<wr.heap.size:=by simp at hb;omega
       have HE:Hid (intL ((([] ++ l.rc.map Rcp.src) ++ l.rt.map Rtn.src) ++ (l.sg.take (k3+1)).map Sgt.src)=intL ((([] ++ l.rc.map Rcp.src) ++ l.rt.map Rtn.src) ++ (l.sg.take k3).map Sgt.src) ++ [.int .i64 e.src]):=by
        show _=_
        rw [take_snoc_some he]
        simp [intL]
       have HO:=Lib.hid hown
       have HB:=Lib.hid hB
       clear he hB
       go_wp2_with (at_builtin;refine wpList_append_own _ rfl (.tmp 46) (.tmp 53) 30 rfl (w.heap.size+1) 3 i0 _ 1 8 Tryz.underlying30 hi hz0 hz1 hz2 rfl (by decide) _ _ _ rfl (hown.alloc _) ⟨wr.heap.size,0,none⟩ 1 1 [.int .i64 e.src] rfl rfl ?c1 ?c2 ?c3 ?c4 ?c5 ?_;rotate_left 5;intro v' w2 hown2 hgrow2 _)
       case c1=>intro j u hj;match j,hj with | 0,hj=>simp at hj;subst hj;simp [Addr.add]
       case c2=>simp [Value.oneCell']
       case c3=>unfold maxLen;omega
       case c4=>omega
       case c5=>simp;omega
       go_roundw
       case rel =>
        (repeat apply Exists.intro)
        refine ⟨⟨k3+1,by omega,by go_num,by rw [HE.out];exact hown2,OwnB.below (by have:=HB.out;exact bel_) (HO.out) (by simp;omega) hgrow2⟩,?_⟩
        first | rfl | (rw [hA] <;> rfl) | rw [hA]
       case measure=>exact ms_
      ·have hkn:Hid (k3=x.sn):=by show _=_;omega
       have HBW:=Lib.hid hB
       have HOW:=hown
       rw [hkn.out,List.take_of_length_le (by rw [HL3.out];exact Nat.le_refl _)] at HOW
       have HOW:=Lib.hid HOW
       clear hB hown
       go_wp2
       go_ret
       exact RetO.mk' (by simpa [srcL] using HOW.out) HBW.out HL1.out HL2.out HL3.out
end Go.Proofs.YtoiompoapikkbaaGreat
