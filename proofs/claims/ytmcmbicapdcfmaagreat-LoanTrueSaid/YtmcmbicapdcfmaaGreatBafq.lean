/- Layer 2 of the texts that LoanBack takes: Bafq. -/
import Derived.Test.YtmcmbicapdcfmaaGreatBadq
import Derived.Test.YtmcmbicapdcfmaaGreatBaeq
set_option linter.unusedVariables false
set_option linter.unusedSimpArgs false
set_option maxHeartbeats 16000000
namespace Go.Proofs.YtmcmbicapdcfmaaGreat
open Go.RowKit
theorem itemCells_length (l:List (Int × Int)):(itemCells l).length=l.length*2:=by
 induction l with
 | nil=>rfl
 | cons d ds ih=>simp only [itemCells,List.flatMap_cons,List.length_append,List.length_cons] at *;simp only [ih,List.length_nil];omega
theorem Its.len {w:World} {B n:Nat} {A:Option Addr} {l:List (Int × Int)} (h:Its w B A n l):l.length=n:=by
 have:=h.1
 rw [itemCells_length] at this
 omega
theorem Its.now {w w':World} {n:Nat} {A:Option Addr} {l:List (Int × Int)} (h:Its w w.heap.size A n l) (hb:Below w.heap.size w w'):Its w' w'.heap.size A n l:=(Rd.ext h hb lr_).more hb.size
theorem Its.two {w:World} {B:Nat} {A:Option Addr} {p q r s:Int} (h:Its w B A 2 [(p,q),(r,s)]) :
 ∃ b o,A=some ⟨b,o,none⟩∧b<B∧w.cell? ⟨b,o,none⟩=some (.int .i64 p)∧w.cell? ⟨b,o+1,none⟩=some (.int .i64 q)∧w.cell? ⟨b,o+2,none⟩=some (.int .i64 r)∧w.cell? ⟨b,o+3,none⟩=some (.int .i64 s):=by
 obtain ⟨b,o,e,hb,hc⟩:=h.2 (by omega)
 exact ⟨b,o,e,hb,hc 0 _ rfl,hc 1 _ rfl,hc 2 _ rfl,hc 3 _ rfl⟩
theorem Ds.grow {w:World} {n:Nat} {A:Option Addr} {ds:List Deed} (h:Ds w w.heap.size A n ds) (g:Grow w):Ds g.1 g.1.heap.size A n ds:=Ds.now h g.2
structure St where
 holder:Int
 hand:Int
 office:Bool
deriving DecidableEq
def St.zero:St:=⟨0,0,false⟩
def stepSt (s:St) (d:Deed):St :=
 if d.kind=1 then { s with office:=true }
 else if d.kind=2 then { s with office:=false }
 else if d.kind=3 then { s with holder:=d.person,hand:=d.person }
 else if d.kind=4 then (if s.holder=0 then s else { s with hand:=d.person })
 else if d.kind=5 then { s with hand:=s.holder }
 else { s with holder:=0,hand:=0 }
def runSt (ds:List Deed):St:=ds.foldl stepSt St.zero
def stCells (l:List St):List Value:=l.flatMap fun s=>[.int .i64 s.holder,.int .i64 s.hand,.bool s.office]
theorem stCells_length (l:List St):(stCells l).length=l.length*3:=by
 induction l with
 | nil=>rfl
 | cons d ds ih=>simp only [stCells,List.flatMap_cons,List.length_append,List.length_cons] at *;simp only [ih,List.length_nil];omega
theorem stCells_cons (s:St) (l:List St):stCells (s :: l)=[.int .i64 s.holder,.int .i64 s.hand,.bool s.office] ++ stCells l:=rfl
theorem stCells_get (l:List St) (k j:Nat) (s:St) (hd:l[k]?=some s) (hj:j<3) :
 (stCells l)[k*3+j]?=[Value.int .i64 s.holder,.int .i64 s.hand,.bool s.office][j]?:=by
 induction l generalizing k with
 | nil=>simp at hd
 | cons a ds ih =>
   cases k with
   | zero =>
     simp only [List.getElem?_cons_zero,Option.some.injEq] at hd
     subst hd
     rw [stCells_cons,List.getElem?_append_left (by simp;omega)]
     simp
   | succ k =>
     rw [stCells_cons,List.getElem?_append_right (by simp;omega)]
     rw [show (k+1)*3+j - [Value.int .i64 a.holder,.int .i64 a.hand,.bool a.office].length=k*3+j from by simp;omega]
     exact ih k (by simpa using hd)
def Ss (w:World) (B:Nat) (A:Option Addr) (n:Nat) (l:List St):Prop:=Rd w B 3 A n (stCells l)
theorem Ss.len {w:World} {B n:Nat} {A:Option Addr} {l:List St} (h:Ss w B A n l):l.length=n:=by
 have:=h.1
 rw [stCells_length] at this
 omega
theorem Ss.now {w w':World} {n:Nat} {A:Option Addr} {l:List St} (h:Ss w w.heap.size A n l) (hb:Below w.heap.size w w'):Ss w' w'.heap.size A n l:=(Rd.ext h hb lr_).more hb.size
theorem Ss.at_ {w:World} {B n:Nat} {A:Option Addr} {l:List St} (h:Ss w B A n l) {k:Nat} (hk:k<n) :
 ∃ b o s,A=some ⟨b,o,none⟩∧b<B∧l[k]?=some s∧w.cell? ⟨b,o+k*3,none⟩=some (.int .i64 s.holder)∧w.cell? ⟨b,o+k*3+1,none⟩=some (.int .i64 s.hand)∧w.cell? ⟨b,o+k*3+2,none⟩=some (.bool s.office):=by
 obtain ⟨b,o,e,hb,hc⟩:=h.2 (by omega)
 have hl:=h.len
 have hd:l[k]?=some l[k]:=List.getElem?_eq_getElem (by omega)
 have g:∀ j,j<3→∀ u,[Value.int .i64 l[k].holder,.int .i64 l[k].hand,.bool l[k].office][j]?=some u→w.cell? ⟨b,o+(k*3+j),none⟩=some u:=fun j hj u hu=>hc _ u (by rw [stCells_get l k j _ hd hj];exact hu)
 exact ⟨b,o,l[k],e,hb,hd,g 0 (by omega) _ rfl,g 1 (by omega) _ rfl,g 2 (by omega) _ rfl⟩
def Sq {α:Type} (Q:World→Nat→Nat→Nat→α→Prop) (size:Nat) (w:World) (B:Nat) (A:Option Addr) (n:Nat) (xs:List α):Prop :=
 xs.length=n∧(0<n→∃ b o,A=some ⟨b,o,none⟩∧b<B∧∀ k x,xs[k]?=some x→Q w B b (o+k*size) x)
def Abides {α:Type} (Q:World→Nat→Nat→Nat→α→Prop):Prop :=
 (∀ w w' B b o x,Q w B b o x→b<B→(∀ b o,b<B→w'.cell? ⟨b,o,none⟩=w.cell? ⟨b,o,none⟩)→Q w' B b o x)∧(∀ w B B' b o x,Q w B b o x→B≤B'→Q w B' b o x)
section
variable {α:Type} {Q:World→Nat→Nat→Nat→α→Prop} {size:Nat} {w w':World} {B B' n:Nat} {A:Option Addr} {xs:List α}
theorem Sq.len (h:Sq Q size w B A n xs):xs.length=n:=h.1
theorem Sq.at_ (h:Sq Q size w B A n xs) {k:Nat} (hk:k<n):∃ b o x,A=some ⟨b,o,none⟩∧b<B∧xs[k]?=some x∧Q w B b (o+k*size) x:=by
 obtain ⟨b,o,e,hb,hc⟩:=h.2 (by omega)
 have hd:xs[k]?=some (xs[k]'(by rw [h.1];exact hk)):=List.getElem?_eq_getElem _
 exact ⟨b,o,_,e,hb,hd,hc k _ hd⟩
theorem Sq.keep (h:Sq Q size w B A n xs) (hQ:Abides Q) (hk:∀ b o,b<B→w'.cell? ⟨b,o,none⟩=w.cell? ⟨b,o,none⟩):Sq Q size w' B A n xs :=
 ⟨h.1,fun hn=>by
   obtain ⟨b,o,e,hb,hc⟩:=h.2 hn
   exact ⟨b,o,e,hb,fun k x hx=>hQ.1 _ _ _ _ _ _ (hc k x hx) hb hk⟩⟩
theorem Sq.more (h:Sq Q size w B A n xs) (hQ:Abides Q) (hB:B≤B'):Sq Q size w B' A n xs :=
 ⟨h.1,fun hn=>by
   obtain ⟨b,o,e,hb,hc⟩:=h.2 hn
   exact ⟨b,o,e,by omega,fun k x hx=>hQ.2 _ _ _ _ _ _ (hc k x hx) hB⟩⟩
theorem Sq.ext (h:Sq Q size w B A n xs) (hQ:Abides Q) (hb:Below w.heap.size w w') (hB:B≤w.heap.size):Sq Q size w' B A n xs:=h.keep hQ fun b o hp=>hb.cell (p:=⟨b,o,none⟩) (by show b<_;omega)
theorem Sq.now (h:Sq Q size w w.heap.size A n xs) (hQ:Abides Q) (hb:Below w.heap.size w w'):Sq Q size w' w'.heap.size A n xs:=(h.ext hQ hb lr_).more hQ hb.size
theorem Sq.nil_:Sq Q size w B A 0 []:=⟨rfl,fun h=>absurd h (by omega)⟩
end
def QP (w:World) (_ b o:Nat) (p:Ppr):Prop:=w.cell? ⟨b,o,none⟩=some (.int .i64 p.id)∧w.cell? ⟨b,o+1,none⟩=some (.int .i64 p.lv)
def QS (w:World) (_ b o:Nat) (s:Sgt):Prop :=
 w.cell? ⟨b,o,none⟩=some (.int .i64 s.src)∧w.cell? ⟨b,o+1,none⟩=some (.int .i64 s.per)∧w.cell? ⟨b,o+2,none⟩=some (.int .i64 s.pap)∧w.cell? ⟨b,o+3,none⟩=some (.int .i64 s.leaf)∧w.cell? ⟨b,o+4,none⟩=some (.int .i64 s.day)∧w.cell? ⟨b,o+5,none⟩=some (.int .i64 s.kn)∧w.cell? ⟨b,o+6,none⟩=some (.int .i64 s.un)
def QR (w:World) (B b o:Nat) (r:Rcp):Prop:=∃ A n c,
 (w.cell? ⟨b,o,none⟩=some (.int .i64 r.src)∧w.cell? ⟨b,o+1,none⟩=some (.int .i64 r.bor)∧w.cell? ⟨b,o+2,none⟩=some (.int .i64 r.pap)∧w.cell? ⟨b,o+3,none⟩=some (.slice A n c)∧w.cell? ⟨b,o+4,none⟩=some (.int .i64 r.day)∧w.cell? ⟨b,o+5,none⟩=some (.int .i64 r.kn)∧w.cell? ⟨b,o+6,none⟩=some (.int .i64 r.un)) ∧
 (Is w B A n r.lv∧n≤c∧c≤maxLen)
def QT (w:World) (B b o:Nat) (r:Rtn):Prop:=∃ A n c,
 (w.cell? ⟨b,o,none⟩=some (.int .i64 r.src)∧w.cell? ⟨b,o+1,none⟩=some (.int .i64 r.rcp)∧w.cell? ⟨b,o+2,none⟩=some (.int .i64 r.per)∧w.cell? ⟨b,o+3,none⟩=some (.slice A n c)∧w.cell? ⟨b,o+4,none⟩=some (.int .i64 r.lo)∧w.cell? ⟨b,o+5,none⟩=some (.int .i64 r.hi)∧w.cell? ⟨b,o+6,none⟩=some (.int .i64 r.kn)∧w.cell? ⟨b,o+7,none⟩=some (.int .i64 r.un)) ∧
 (Is w B A n r.lv∧n≤c∧c≤maxLen)
theorem abP:Abides QP:=⟨fun w w' B b o x h hb hk=>⟨(hk _ _ hb).trans h.1,(hk _ _ hb).trans h.2⟩,fun _ _ _ _ _ _ h _=>h⟩
theorem abS:Abides QS:=⟨fun w w' B b o x h hb hk=>by
 obtain ⟨h0,h1,h2,h3,h4,h5,h6⟩:=h
 exact ⟨(hk _ _ hb).trans h0,(hk _ _ hb).trans h1,(hk _ _ hb).trans h2,(hk _ _ hb).trans h3,(hk _ _ hb).trans h4,(hk _ _ hb).trans h5,(hk _ _ hb).trans h6⟩,fun _ _ _ _ _ _ h _=>h⟩
theorem abR:Abides QR:=⟨fun w w' B b o x h hb hk=>by
 obtain ⟨A,n,c,⟨h0,h1,h2,h3,h4,h5,h6⟩,hi,hc⟩:=h
 exact ⟨A,n,c,⟨(hk _ _ hb).trans h0,(hk _ _ hb).trans h1,(hk _ _ hb).trans h2,(hk _ _ hb).trans h3,(hk _ _ hb).trans h4,(hk _ _ hb).trans h5,(hk _ _ hb).trans h6⟩,Rd.keep hi hk,hc⟩,fun _ _ _ _ _ _ h hB=>by
 obtain ⟨A,n,c,h0,hi,hc⟩:=h
 exact ⟨A,n,c,h0,Is.more hi hB,hc⟩⟩
theorem abT:Abides QT:=⟨fun w w' B b o x h hb hk=>by
 obtain ⟨A,n,c,⟨h0,h1,h2,h3,h4,h5,h6,h7⟩,hi,hc⟩:=h
 exact ⟨A,n,c,⟨(hk _ _ hb).trans h0,(hk _ _ hb).trans h1,(hk _ _ hb).trans h2,(hk _ _ hb).trans h3,(hk _ _ hb).trans h4,(hk _ _ hb).trans h5,(hk _ _ hb).trans h6,(hk _ _ hb).trans h7⟩,Rd.keep hi hk,hc⟩,fun _ _ _ _ _ _ h hB=>by
 obtain ⟨A,n,c,h0,hi,hc⟩:=h
 exact ⟨A,n,c,h0,Is.more hi hB,hc⟩⟩
abbrev Pps:=Sq QP 2
abbrev Rcs:=Sq QR 7
abbrev Rts:=Sq QT 8
abbrev Sgs:=Sq QS 7
structure Led where
 pp:List Ppr
 rc:List Rcp
 rt:List Rtn
 sg:List Sgt
structure Lsl where
 (pA:Option Addr) (pn pc:Nat)
 (rA:Option Addr) (rn rc:Nat)
 (tA:Option Addr) (tn tc:Nat)
 (sA:Option Addr) (sn sc:Nat)
structure LedIn (w:World) (B:Nat) (x:Lsl) (l:Led):Prop where
 p:Pps w B x.pA x.pn l.pp
 r:Rcs w B x.rA x.rn l.rc
 t:Rts w B x.tA x.tn l.rt
 s:Sgs w B x.sA x.sn l.sg
theorem LedIn.now {w w':World} {x:Lsl} {l:Led} (h:LedIn w w.heap.size x l) (hb:Below w.heap.size w w'):LedIn w' w'.heap.size x l:=⟨h.p.now abP hb,h.r.now abR hb,h.t.now abT hb,h.s.now abS hb⟩
theorem LedIn.ext {w w':World} {B:Nat} {x:Lsl} {l:Led} (h:LedIn w B x l) (hb:Below w.heap.size w w') (hB:B≤w.heap.size):LedIn w' B x l:=⟨h.p.ext abP hb hB,h.r.ext abR hb hB,h.t.ext abT hb hB,h.s.ext abS hb hB⟩
structure Lsl.fit (x:Lsl):Prop where
 p:x.pn≤x.pc∧x.pc≤maxLen
 r:x.rn≤x.rc∧x.rc≤maxLen
 t:x.tn≤x.tc∧x.tc≤maxLen
 s:x.sn≤x.sc∧x.sc≤maxLen
end Go.Proofs.YtmcmbicapdcfmaaGreat
