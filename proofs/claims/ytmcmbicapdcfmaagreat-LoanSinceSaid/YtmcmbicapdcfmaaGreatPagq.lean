/- Layer 2 of the texts that the statements over histories take: Pagq. -/
import Derived.Test.YtmcmbicapdcfmaaGreatPabq
import Derived.Test.YtmcmbicapdcfmaaGreatPacq
set_option linter.unusedVariables false
set_option linter.unusedSimpArgs false
set_option maxHeartbeats 16000000
namespace Go.Proofs.YtmcmbicapdcfmaaGreat
open Go.RowKit
def Sq {α:Type} (Q:World→Nat→Nat→Nat→α→Prop) (size:Nat) (w:World) (B:Nat) (A:Option Addr) (n:Nat) (xs:List α):Prop :=
 xs.length=n∧(0<n→∃ b o,A=some ⟨b,o,none⟩∧b<B∧∀ k x,xs[k]?=some x→Q w B b (o+k*size) x)
def Abides {α:Type} (Q:World→Nat→Nat→Nat→α→Prop):Prop :=
 (∀ w w' B b o x,Q w B b o x→b<B→(∀ b o,b<B→w'.cell? ⟨b,o,none⟩=w.cell? ⟨b,o,none⟩)→Q w' B b o x)∧(∀ w B B' b o x,Q w B b o x→B≤B'→Q w B' b o x)
section
variable {α:Type} {Q:World→Nat→Nat→Nat→α→Prop} {size:Nat} {w w':World} {B B' n:Nat} {A:Option Addr} {xs:List α}
theorem Sq.len (h:Sq Q size w B A n xs):xs.length=n:=h.1
theorem Sq.at_ (h:Sq Q size w B A n xs) {k:Nat} (hk:k<n):∃ b o x,A=some ⟨b,o,none⟩∧b<B∧xs[k]?=some x∧Q w B b (o+k*size) x:=by
 obtain ⟨b,o,e,hb,hc⟩:=h.2 (by omega)
 have hd:xs[k]?=some (xs[k]'(by rw [h.1];exact hk)):=List.getElem?_eq_getElem _
 exact ⟨b,o,_,e,hb,hd,hc k _ hd⟩
theorem Sq.keep (h:Sq Q size w B A n xs) (hQ:Abides Q) (hk:∀ b o,b<B→w'.cell? ⟨b,o,none⟩=w.cell? ⟨b,o,none⟩):Sq Q size w' B A n xs :=
 ⟨h.1,fun hn=>by
   obtain ⟨b,o,e,hb,hc⟩:=h.2 hn
   exact ⟨b,o,e,hb,fun k x hx=>hQ.1 _ _ _ _ _ _ (hc k x hx) hb hk⟩⟩
theorem Sq.more (h:Sq Q size w B A n xs) (hQ:Abides Q) (hB:B≤B'):Sq Q size w B' A n xs :=
 ⟨h.1,fun hn=>by
   obtain ⟨b,o,e,hb,hc⟩:=h.2 hn
   exact ⟨b,o,e,by omega,fun k x hx=>hQ.2 _ _ _ _ _ _ (hc k x hx) hB⟩⟩
theorem Sq.ext (h:Sq Q size w B A n xs) (hQ:Abides Q) (hb:Below w.heap.size w w') (hB:B≤w.heap.size):Sq Q size w' B A n xs:=h.keep hQ fun b o hp=>hb.cell (p:=⟨b,o,none⟩) (by show b<_;omega)
theorem Sq.now (h:Sq Q size w w.heap.size A n xs) (hQ:Abides Q) (hb:Below w.heap.size w w'):Sq Q size w' w'.heap.size A n xs:=(h.ext hQ hb lr_).more hQ hb.size
theorem Sq.nil_:Sq Q size w B A 0 []:=⟨rfl,fun h=>absurd h (by omega)⟩
end
def QP (w:World) (_ b o:Nat) (p:Ppr):Prop:=w.cell? ⟨b,o,none⟩=some (.int .i64 p.id)∧w.cell? ⟨b,o+1,none⟩=some (.int .i64 p.lv)
def QS (w:World) (_ b o:Nat) (s:Sgt):Prop :=
 w.cell? ⟨b,o,none⟩=some (.int .i64 s.src)∧w.cell? ⟨b,o+1,none⟩=some (.int .i64 s.per)∧w.cell? ⟨b,o+2,none⟩=some (.int .i64 s.pap)∧w.cell? ⟨b,o+3,none⟩=some (.int .i64 s.leaf)∧w.cell? ⟨b,o+4,none⟩=some (.int .i64 s.day)∧w.cell? ⟨b,o+5,none⟩=some (.int .i64 s.kn)∧w.cell? ⟨b,o+6,none⟩=some (.int .i64 s.un)
def QR (w:World) (B b o:Nat) (r:Rcp):Prop:=∃ A n c,
 (w.cell? ⟨b,o,none⟩=some (.int .i64 r.src)∧w.cell? ⟨b,o+1,none⟩=some (.int .i64 r.bor)∧w.cell? ⟨b,o+2,none⟩=some (.int .i64 r.pap)∧w.cell? ⟨b,o+3,none⟩=some (.slice A n c)∧w.cell? ⟨b,o+4,none⟩=some (.int .i64 r.day)∧w.cell? ⟨b,o+5,none⟩=some (.int .i64 r.kn)∧w.cell? ⟨b,o+6,none⟩=some (.int .i64 r.un)) ∧
 (Is w B A n r.lv∧n≤c∧c≤maxLen)
def QT (w:World) (B b o:Nat) (r:Rtn):Prop:=∃ A n c,
 (w.cell? ⟨b,o,none⟩=some (.int .i64 r.src)∧w.cell? ⟨b,o+1,none⟩=some (.int .i64 r.rcp)∧w.cell? ⟨b,o+2,none⟩=some (.int .i64 r.per)∧w.cell? ⟨b,o+3,none⟩=some (.slice A n c)∧w.cell? ⟨b,o+4,none⟩=some (.int .i64 r.lo)∧w.cell? ⟨b,o+5,none⟩=some (.int .i64 r.hi)∧w.cell? ⟨b,o+6,none⟩=some (.int .i64 r.kn)∧w.cell? ⟨b,o+7,none⟩=some (.int .i64 r.un)) ∧
 (Is w B A n r.lv∧n≤c∧c≤maxLen)
theorem abP:Abides QP:=⟨fun w w' B b o x h hb hk=>⟨(hk _ _ hb).trans h.1,(hk _ _ hb).trans h.2⟩,fun _ _ _ _ _ _ h _=>h⟩
theorem abS:Abides QS:=⟨fun w w' B b o x h hb hk=>by
 obtain ⟨h0,h1,h2,h3,h4,h5,h6⟩:=h
 exact ⟨(hk _ _ hb).trans h0,(hk _ _ hb).trans h1,(hk _ _ hb).trans h2,(hk _ _ hb).trans h3,(hk _ _ hb).trans h4,(hk _ _ hb).trans h5,(hk _ _ hb).trans h6⟩,fun _ _ _ _ _ _ h _=>h⟩
theorem abR:Abides QR:=⟨fun w w' B b o x h hb hk=>by
 obtain ⟨A,n,c,⟨h0,h1,h2,h3,h4,h5,h6⟩,hi,hc⟩:=h
 exact ⟨A,n,c,⟨(hk _ _ hb).trans h0,(hk _ _ hb).trans h1,(hk _ _ hb).trans h2,(hk _ _ hb).trans h3,(hk _ _ hb).trans h4,(hk _ _ hb).trans h5,(hk _ _ hb).trans h6⟩,Rd.keep hi hk,hc⟩,fun _ _ _ _ _ _ h hB=>by
 obtain ⟨A,n,c,h0,hi,hc⟩:=h
 exact ⟨A,n,c,h0,Is.more hi hB,hc⟩⟩
theorem abT:Abides QT:=⟨fun w w' B b o x h hb hk=>by
 obtain ⟨A,n,c,⟨h0,h1,h2,h3,h4,h5,h6,h7⟩,hi,hc⟩:=h
 exact ⟨A,n,c,⟨(hk _ _ hb).trans h0,(hk _ _ hb).trans h1,(hk _ _ hb).trans h2,(hk _ _ hb).trans h3,(hk _ _ hb).trans h4,(hk _ _ hb).trans h5,(hk _ _ hb).trans h6,(hk _ _ hb).trans h7⟩,Rd.keep hi hk,hc⟩,fun _ _ _ _ _ _ h hB=>by
 obtain ⟨A,n,c,h0,hi,hc⟩:=h
 exact ⟨A,n,c,h0,Is.more hi hB,hc⟩⟩
abbrev Pps:=Sq QP 2
abbrev Rcs:=Sq QR 7
abbrev Rts:=Sq QT 8
abbrev Sgs:=Sq QS 7
structure Led where
 pp:List Ppr
 rc:List Rcp
 rt:List Rtn
 sg:List Sgt
structure Lsl where
 (pA:Option Addr) (pn pc:Nat)
 (rA:Option Addr) (rn rc:Nat)
 (tA:Option Addr) (tn tc:Nat)
 (sA:Option Addr) (sn sc:Nat)
structure LedIn (w:World) (B:Nat) (x:Lsl) (l:Led):Prop where
 p:Pps w B x.pA x.pn l.pp
 r:Rcs w B x.rA x.rn l.rc
 t:Rts w B x.tA x.tn l.rt
 s:Sgs w B x.sA x.sn l.sg
theorem LedIn.now {w w':World} {x:Lsl} {l:Led} (h:LedIn w w.heap.size x l) (hb:Below w.heap.size w w'):LedIn w' w'.heap.size x l:=⟨h.p.now abP hb,h.r.now abR hb,h.t.now abT hb,h.s.now abS hb⟩
theorem LedIn.ext {w w':World} {B:Nat} {x:Lsl} {l:Led} (h:LedIn w B x l) (hb:Below w.heap.size w w') (hB:B≤w.heap.size):LedIn w' B x l:=⟨h.p.ext abP hb hB,h.r.ext abR hb hB,h.t.ext abT hb hB,h.s.ext abS hb hB⟩
structure Lsl.fit (x:Lsl):Prop where
 p:x.pn≤x.pc∧x.pc≤maxLen
 r:x.rn≤x.rc∧x.rc≤maxLen
 t:x.tn≤x.tc∧x.tc≤maxLen
 s:x.sn≤x.sc∧x.sc≤maxLen
def lvOf:List Ppr→Int→Int
 | [],_=>0
 | p :: ps,n=>if p.id=n then p.lv else lvOf ps n
theorem lvOf_at {pp:List Ppr} {k:Nat} {p:Ppr} (n:Int) (h:pp[k]?=some p):lvOf (pp.drop k) n=if p.id=n then p.lv else lvOf (pp.drop (k+1)) n:=by
 have hlt:k<pp.length:=(List.getElem?_eq_some_iff.1 h).1
 have hp:pp[k]=p:=(List.getElem?_eq_some_iff.1 h).2
 rw [List.drop_eq_getElem_cons hlt,hp,lvOf]
def folB (pp:List Ppr) (pap leaf:Int):Bool:=withinB leaf 1 (lvOf pp pap)
theorem p_leaves (pp:List Ppr) (x:Lsl) (n:Int) (w:World) (hn:x.pn≤9223372036854775807) (hd:Pps w w.heap.size x.pA x.pn pp) :
 Calls Tryz.prog 67 #[.agg #[.slice x.pA x.pn x.pc,.slice x.rA x.rn x.rc,.slice x.tA x.tn x.tc,.slice x.sA x.sn x.sc],.int .i64 n] w fun e w'=>e=.returned (.int .i64 (lvOf pp n))∧Below w.heap.size w w':=by
 have hlen:=hd.len
 have HD:=hd_ hd
 have HL:=hd_ hlen
 clear hd hlen
 go_enter Tryz.func67,Tryz.ntmps67
 go_wp2
 go_loopw [10] (fun i wr=>∃ k:Nat,k≤x.pn∧i=.int .i64 k∧lvOf (pp.drop k) n=lvOf pp n∧Below w.heap.size w wr) (fun i _=>x.pn - (intOf i).toNat)
 case atStart=>exact ⟨0,by omega,rfl,rfl,by exact bel_⟩
 case round =>
  obtain ⟨k,hk,rfl,hv,hB⟩:=hrel
  have HV:=hd_ hv
  clear hv
  by_cases hlt:k<x.pn
  ·have hs0:w.heap.size≤wr.heap.size:=hB.size
   obtain ⟨b,o,p,hA,hb,hp,h0,h1⟩:=(Sq.ext HD.out abP hB lr_).at_ hlt
   have HP:=hd_ (lvOf_at n hp)
   have hbr:b<wr.heap.size:=by omega
   clear hp
   by_cases he:p.id=n
   ·go_wp2
    go_ret
    exact ⟨ret_int (by rw [← HV.out,HP.out,if_pos he]),by exact bel_⟩
   ·go_wp2
    go_roundw
    case rel=>exact ⟨k+1,by omega,by go_num,by rw [← HV.out,HP.out,if_neg he],by exact bel_⟩
    case measure=>exact ms_
  ·have hkn:Hid (k=x.pn):=by show _=_;omega
   go_wp2
   go_ret
   exact ⟨ret_int (by rw [← HV.out,List.drop_eq_nil_of_le (by rw [HL.out,hkn.out];exact lr_)];rfl),hB⟩
theorem r_leavesOf (pp:List Ppr) (x:Lsl) (n:Int) (w:World) (hn:x.pn≤9223372036854775807) (hd:Pps w w.heap.size x.pA x.pn pp) :
 Calls Tryz.prog 78 #[.agg #[.slice x.pA x.pn x.pc,.slice x.rA x.rn x.rc,.slice x.tA x.tn x.tc,.slice x.sA x.sn x.sc],.int .i64 n] w fun e w'=>e=.returned (.int .i64 (lvOf pp n))∧Below w.heap.size w w':=by
 have hlen:=hd.len
 have HD:=hd_ hd
 have HL:=hd_ hlen
 clear hd hlen
 go_enter Tryz.func78,Tryz.ntmps78
 go_wp2
 go_loopw [5] (fun i wr=>∃ k:Nat,k≤x.pn∧i=.int .i64 k∧lvOf (pp.drop k) n=lvOf pp n∧wr=w.alloc (.cells #[.slice x.pA x.pn x.pc,.slice x.rA x.rn x.rc,.slice x.tA x.tn x.tc,.slice x.sA x.sn x.sc] 32)) (fun i _=>x.pn - (intOf i).toNat)
 case atStart=>exact ⟨0,by omega,rfl,rfl,rfl⟩
 case round =>
  obtain ⟨k,hk,rfl,hv,rfl⟩:=hrel
  have HV:=hd_ hv
  clear hv
  by_cases hlt:k<x.pn
  ·obtain ⟨b,o,p,hA,hb,hp,h0,h1⟩:=HD.out.at_ hlt
   have HP:=hd_ (lvOf_at n hp)
   clear hp
   by_cases he:p.id=n
   ·go_wp2
    go_ret
    exact ⟨ret_int (by rw [← HV.out,HP.out,if_pos he]),by exact bel_⟩
   ·go_wp2
    go_roundw
    case rel=>exact ⟨k+1,by omega,by go_num,by rw [← HV.out,HP.out,if_neg he],by rw [hA]⟩
    case measure=>exact ms_
  ·have hkn:Hid (k=x.pn):=by show _=_;omega
   go_wp2
   go_ret
   exact ⟨ret_int (by rw [← HV.out,List.drop_eq_nil_of_le (by rw [HL.out,hkn.out];exact lr_)];rfl),by exact bel_⟩
theorem p_has (pp:List Ppr) (x:Lsl) (a b:Int) (w:World) (hn:x.pn≤9223372036854775807) (hd:Pps w w.heap.size x.pA x.pn pp) :
 Calls Tryz.prog 60 #[.agg #[.slice x.pA x.pn x.pc,.slice x.rA x.rn x.rc,.slice x.tA x.tn x.tc,.slice x.sA x.sn x.sc],.agg #[.int .i64 a,.int .i64 b]] w fun e w'=>e=.returned (.bool (folB pp a b))∧Below w.heap.size w w':=by
 have HD:=hd_ hd
 clear hd
 go_enter Tryz.func60,Tryz.ntmps60
 go_wp2_with fail
 have HD1:Hid (Pps ((w.alloc (.cells #[.slice x.pA x.pn x.pc,.slice x.rA x.rn x.rc,.slice x.tA x.tn x.tc,.slice x.sA x.sn x.sc] 32)).alloc (.cells #[.int .i64 a,.int .i64 b] 48)) ((w.alloc (.cells #[.slice x.pA x.pn x.pc,.slice x.rA x.rn x.rc,.slice x.tA x.tn x.tc,.slice x.sA x.sn x.sc] 32)).alloc (.cells #[.int .i64 a,.int .i64 b] 48)).heap.size x.pA x.pn pp):=by
  show Sq _ _ _ _ _ _ _
  exact HD.out.now abP (by exact bel_)
 (refine rg_ ?_;(repeat (go_big_quiet_step ((first | (go_at_call_of 67 (Value.agg #[.slice x.pA x.pn x.pc,.slice x.rA x.rn x.rc,.slice x.tA x.tn x.tc,.slice x.sA x.sn x.sc]);exact Calls.grow_all (fun g=>p_leaves pp x a g.1 hn (HD1.out.now abP g.2))) | (go_at_call 106;exact Calls.grow_same (p_within _ _ _ _))))));refine qn_ fun w1 hb1 hc1 hf1=>?_)
 go_wp2_with fail
 go_ret
 exact ⟨rfl,bt_ (W:=(w.alloc (.cells #[.slice x.pA x.pn x.pc,.slice x.rA x.rn x.rc,.slice x.tA x.tn x.tc,.slice x.sA x.sn x.sc] 32)).alloc (.cells #[.int .i64 a,.int .i64 b] 48)) (by exact bel_) hb1⟩
theorem p_folioOf (s:Sgt) (w:World):Calls Tryz.prog 87 #[.agg #[.int .i64 s.src,.int .i64 s.per,.int .i64 s.pap,.int .i64 s.leaf,.int .i64 s.day,.int .i64 s.kn,.int .i64 s.un]] w fun e w'=>e=.returned (.agg #[.int .i64 s.pap,.int .i64 s.leaf])∧Below w.heap.size w w':=by
 go_enter Tryz.func87,Tryz.ntmps87
 go_wp2
 refine bodyPost_ret (v:=.agg #[.int .i64 s.pap,.int .i64 s.leaf]) (by simp [results,Tryz.f87,go_sem]) rfl ⟨rfl,by exact bel_⟩
end Go.Proofs.YtmcmbicapdcfmaaGreat
