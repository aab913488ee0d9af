/- Layer 2 of the texts that the statements over histories take: Padq. -/
import Derived.Test.YtmcmbicapdcfmaaGreatPabq
import Derived.Test.YtmcmbicapdcfmaaGreatPacq
set_option linter.unusedVariables false
set_option linter.unusedSimpArgs false
set_option maxHeartbeats 16000000
namespace Go.Proofs.YtmcmbicapdcfmaaGreat
open Go.RowKit
theorem itemCells_length (l:List (Int × Int)):(itemCells l).length=l.length*2:=by
 induction l with
 | nil=>rfl
 | cons d ds ih=>simp only [itemCells,List.flatMap_cons,List.length_append,List.length_cons] at *;simp only [ih,List.length_nil];omega
theorem Its.len {w:World} {B n:Nat} {A:Option Addr} {l:List (Int × Int)} (h:Its w B A n l):l.length=n:=by
 have:=h.1
 rw [itemCells_length] at this
 omega
theorem Its.now {w w':World} {n:Nat} {A:Option Addr} {l:List (Int × Int)} (h:Its w w.heap.size A n l) (hb:Below w.heap.size w w'):Its w' w'.heap.size A n l:=(Rd.ext h hb lr_).more hb.size
theorem Its.two {w:World} {B:Nat} {A:Option Addr} {p q r s:Int} (h:Its w B A 2 [(p,q),(r,s)]) :
 ∃ b o,A=some ⟨b,o,none⟩∧b<B∧w.cell? ⟨b,o,none⟩=some (.int .i64 p)∧w.cell? ⟨b,o+1,none⟩=some (.int .i64 q)∧w.cell? ⟨b,o+2,none⟩=some (.int .i64 r)∧w.cell? ⟨b,o+3,none⟩=some (.int .i64 s):=by
 obtain ⟨b,o,e,hb,hc⟩:=h.2 (by omega)
 exact ⟨b,o,e,hb,hc 0 _ rfl,hc 1 _ rfl,hc 2 _ rfl,hc 3 _ rfl⟩
theorem Ds.grow {w:World} {n:Nat} {A:Option Addr} {ds:List Deed} (h:Ds w w.heap.size A n ds) (g:Grow w):Ds g.1 g.1.heap.size A n ds:=Ds.now h g.2
structure St where
 holder:Int
 hand:Int
 office:Bool
deriving DecidableEq
def St.zero:St:=⟨0,0,false⟩
def stepSt (s:St) (d:Deed):St :=
 if d.kind=1 then { s with office:=true }
 else if d.kind=2 then { s with office:=false }
 else if d.kind=3 then { s with holder:=d.person,hand:=d.person }
 else if d.kind=4 then (if s.holder=0 then s else { s with hand:=d.person })
 else if d.kind=5 then { s with hand:=s.holder }
 else { s with holder:=0,hand:=0 }
def runSt (ds:List Deed):St:=ds.foldl stepSt St.zero
def stCells (l:List St):List Value:=l.flatMap fun s=>[.int .i64 s.holder,.int .i64 s.hand,.bool s.office]
theorem stCells_length (l:List St):(stCells l).length=l.length*3:=by
 induction l with
 | nil=>rfl
 | cons d ds ih=>simp only [stCells,List.flatMap_cons,List.length_append,List.length_cons] at *;simp only [ih,List.length_nil];omega
theorem stCells_cons (s:St) (l:List St):stCells (s :: l)=[.int .i64 s.holder,.int .i64 s.hand,.bool s.office] ++ stCells l:=rfl
theorem stCells_get (l:List St) (k j:Nat) (s:St) (hd:l[k]?=some s) (hj:j<3) :
 (stCells l)[k*3+j]?=[Value.int .i64 s.holder,.int .i64 s.hand,.bool s.office][j]?:=by
 induction l generalizing k with
 | nil=>simp at hd
 | cons a ds ih =>
   cases k with
   | zero =>
     simp only [List.getElem?_cons_zero,Option.some.injEq] at hd
     subst hd
     rw [stCells_cons,List.getElem?_append_left (by simp;omega)]
     simp
   | succ k =>
     rw [stCells_cons,List.getElem?_append_right (by simp;omega)]
     rw [show (k+1)*3+j - [Value.int .i64 a.holder,.int .i64 a.hand,.bool a.office].length=k*3+j from by simp;omega]
     exact ih k (by simpa using hd)
def Ss (w:World) (B:Nat) (A:Option Addr) (n:Nat) (l:List St):Prop:=Rd w B 3 A n (stCells l)
theorem Ss.len {w:World} {B n:Nat} {A:Option Addr} {l:List St} (h:Ss w B A n l):l.length=n:=by
 have:=h.1
 rw [stCells_length] at this
 omega
theorem Ss.now {w w':World} {n:Nat} {A:Option Addr} {l:List St} (h:Ss w w.heap.size A n l) (hb:Below w.heap.size w w'):Ss w' w'.heap.size A n l:=(Rd.ext h hb lr_).more hb.size
theorem Ss.at_ {w:World} {B n:Nat} {A:Option Addr} {l:List St} (h:Ss w B A n l) {k:Nat} (hk:k<n) :
 ∃ b o s,A=some ⟨b,o,none⟩∧b<B∧l[k]?=some s∧w.cell? ⟨b,o+k*3,none⟩=some (.int .i64 s.holder)∧w.cell? ⟨b,o+k*3+1,none⟩=some (.int .i64 s.hand)∧w.cell? ⟨b,o+k*3+2,none⟩=some (.bool s.office):=by
 obtain ⟨b,o,e,hb,hc⟩:=h.2 (by omega)
 have hl:=h.len
 have hd:l[k]?=some l[k]:=List.getElem?_eq_getElem (by omega)
 have g:∀ j,j<3→∀ u,[Value.int .i64 l[k].holder,.int .i64 l[k].hand,.bool l[k].office][j]?=some u→w.cell? ⟨b,o+(k*3+j),none⟩=some u:=fun j hj u hu=>hc _ u (by rw [stCells_get l k j _ hd hj];exact hu)
 exact ⟨b,o,l[k],e,hb,hd,g 0 (by omega) _ rfl,g 1 (by omega) _ rfl,g 2 (by omega) _ rfl⟩
end Go.Proofs.YtmcmbicapdcfmaaGreat
