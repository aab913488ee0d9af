/- Layer 2 of the texts that LoanBack takes: Bacq. -/
import Derived.Test.YtmcmbicapdcfmaaGreatBaaq
set_option linter.unusedVariables false
set_option linter.unusedSimpArgs false
set_option maxHeartbeats 16000000
namespace Go.Proofs.YtmcmbicapdcfmaaGreat
open Go.RowKit
def Rd (w:World) (B size:Nat) (A:Option Addr) (n:Nat) (xs:List Value):Prop :=
 xs.length=n*size∧(0<n→∃ b o,A=some ⟨b,o,none⟩∧b<B∧∀ j u,xs[j]?=some u→w.cell? ⟨b,o+j,none⟩=some u)
section
variable {w w':World} {B B' size n:Nat} {A:Option Addr} {xs:List Value}
theorem Rd.keep (h:Rd w B size A n xs) (hk:∀ b o,b<B→w'.cell? ⟨b,o,none⟩=w.cell? ⟨b,o,none⟩):Rd w' B size A n xs :=
 ⟨h.1,fun hn=>by
   obtain ⟨b,o,e,hb,hc⟩:=h.2 hn
   exact ⟨b,o,e,hb,fun j u hu=>(hk _ _ hb).trans (hc j u hu)⟩⟩
theorem Rd.more (h:Rd w B size A n xs) (hB:B≤B'):Rd w B' size A n xs :=
 ⟨h.1,fun hn=>by
   obtain ⟨b,o,e,hb,hc⟩:=h.2 hn
   exact ⟨b,o,e,by omega,hc⟩⟩
theorem Rd.below (h:Rd w B size A n xs) (hb:Below B w w'):Rd w' B size A n xs:=h.keep fun b o hp=>hb.cell (p:=⟨b,o,none⟩) hp
theorem Rd.ext (h:Rd w B size A n xs) (hb:Below w.heap.size w w') (hB:B≤w.heap.size):Rd w' B size A n xs:=h.below (hb.mono hB)
theorem Rd.drew (h:Rd w B size A n xs):Rd w.drew B size A n xs:=h
theorem Rd.alloc (h:Rd w B size A n xs) (hB:B≤w.heap.size) (o:Obj):Rd (w.alloc o) B size A n xs :=
 h.keep fun b i hp=>World.cell?_alloc_lt w o ⟨b,i,none⟩ (by show b<_;omega)
theorem Rd.setCell (h:Rd w B size A n xs) {p:Addr} (hB:B≤p.block) (u:Value):Rd (w.setCell p u) B size A n xs :=
 h.keep fun b i hq=>World.cell?_setCell_other w p ⟨b,i,none⟩ u (fun e=>by subst e;simp at hB;omega)
theorem Rd.nil_:Rd w B size A 0 []:=⟨by simp,fun h=>absurd h (by omega)⟩
end
def deedCells (ds:List Deed):List Value:=ds.flatMap fun d=>[.int .i64 d.par,.int .i64 d.no,.int .i64 d.kind,.int .i64 d.lock,.int .i64 d.person,.int .i64 d.lo,.int .i64 d.hi,.int .i64 d.known,.int .i64 d.til]
theorem deedCells_length (ds:List Deed):(deedCells ds).length=ds.length*9:=by
 induction ds with
 | nil=>rfl
 | cons d ds ih=>simp only [deedCells,List.flatMap_cons,List.length_append,List.length_cons] at *;simp only [ih,List.length_nil];omega
theorem deedCells_cons (d:Deed) (ds:List Deed):deedCells (d :: ds)=[.int .i64 d.par,.int .i64 d.no,.int .i64 d.kind,.int .i64 d.lock,.int .i64 d.person,.int .i64 d.lo,.int .i64 d.hi,.int .i64 d.known,.int .i64 d.til] ++ deedCells ds:=rfl
theorem deedCells_get (ds:List Deed) (k j:Nat) (d:Deed) (hd:ds[k]?=some d) (hj:j<9) :
 (deedCells ds)[k*9+j]?=[Value.int .i64 d.par,.int .i64 d.no,.int .i64 d.kind,.int .i64 d.lock,.int .i64 d.person,.int .i64 d.lo,.int .i64 d.hi,.int .i64 d.known,.int .i64 d.til][j]?:=by
 induction ds generalizing k with
 | nil=>simp at hd
 | cons a ds ih =>
   cases k with
   | zero =>
     simp only [List.getElem?_cons_zero,Option.some.injEq] at hd
     subst hd
     rw [deedCells_cons,List.getElem?_append_left (by simp;omega)]
     simp
   | succ k =>
     rw [deedCells_cons,List.getElem?_append_right (by simp;omega)]
     rw [show (k+1)*9+j - [Value.int .i64 a.par,.int .i64 a.no,.int .i64 a.kind,.int .i64 a.lock,.int .i64 a.person,.int .i64 a.lo,.int .i64 a.hi,.int .i64 a.known,.int .i64 a.til].length=k*9+j from by simp;omega]
     exact ih k (by simpa using hd)
structure DeedAt (w:World) (b o:Nat) (d:Deed):Prop where
 c0:w.cell? ⟨b,o,none⟩=some (.int .i64 d.par)
 c1:w.cell? ⟨b,o+1,none⟩=some (.int .i64 d.no)
 c2:w.cell? ⟨b,o+2,none⟩=some (.int .i64 d.kind)
 c3:w.cell? ⟨b,o+3,none⟩=some (.int .i64 d.lock)
 c4:w.cell? ⟨b,o+4,none⟩=some (.int .i64 d.person)
 c5:w.cell? ⟨b,o+5,none⟩=some (.int .i64 d.lo)
 c6:w.cell? ⟨b,o+6,none⟩=some (.int .i64 d.hi)
 c7:w.cell? ⟨b,o+7,none⟩=some (.int .i64 d.known)
 c8:w.cell? ⟨b,o+8,none⟩=some (.int .i64 d.til)
def Ds (w:World) (B:Nat) (A:Option Addr) (n:Nat) (ds:List Deed):Prop:=Rd w B 9 A n (deedCells ds)
theorem Ds.ext {w w':World} {B n:Nat} {A:Option Addr} {ds:List Deed} (h:Ds w B A n ds) (hb:Below w.heap.size w w') (hB:B≤w.heap.size):Ds w' B A n ds:=Rd.ext h hb hB
theorem Ds.alloc {w:World} {B n:Nat} {A:Option Addr} {ds:List Deed} (h:Ds w B A n ds) (hB:B≤w.heap.size) (o:Obj):Ds (w.alloc o) B A n ds:=Rd.alloc h hB o
theorem Ds.more {w:World} {B B' n:Nat} {A:Option Addr} {ds:List Deed} (h:Ds w B A n ds) (hB:B≤B'):Ds w B' A n ds:=Rd.more h hB
theorem Ds.len {w:World} {B n:Nat} {A:Option Addr} {ds:List Deed} (h:Ds w B A n ds):ds.length=n:=by
 have:=h.1
 rw [deedCells_length] at this
 omega
theorem Ds.at_ {w:World} {B n:Nat} {A:Option Addr} {ds:List Deed} (h:Ds w B A n ds) {k:Nat} (hk:k<n) :
 ∃ b o d,A=some ⟨b,o,none⟩∧b<B∧ds[k]?=some d∧DeedAt w b (o+k*9) d:=by
 obtain ⟨b,o,e,hb,hc⟩:=h.2 (by omega)
 have hl:=h.len
 have hd:ds[k]?=some ds[k]:=List.getElem?_eq_getElem (by omega)
 have g:∀ j,j<9→∀ u,[Value.int .i64 ds[k].par,.int .i64 ds[k].no,.int .i64 ds[k].kind,.int .i64 ds[k].lock,.int .i64 ds[k].person,.int .i64 ds[k].lo,.int .i64 ds[k].hi,.int .i64 ds[k].known,.int .i64 ds[k].til][j]?=some u→w.cell? ⟨b,o+(k*9+j),none⟩=some u:=fun j hj u hu=>hc _ u (by rw [deedCells_get ds k j _ hd hj];exact hu)
 exact ⟨b,o,ds[k],e,hb,hd,g 0 (by omega) _ rfl,g 1 (by omega) _ rfl,g 2 (by omega) _ rfl,g 3 (by omega) _ rfl,g 4 (by omega) _ rfl,g 5 (by omega) _ rfl,g 6 (by omega) _ rfl,g 7 (by omega) _ rfl,g 8 (by omega) _ rfl⟩
theorem own_base {w:World} {base size n:Nat} {e:TypeId} {v:Value} {xs:List Value} (h:w.ownsRow base e size v n xs) {g:Nat} (hg:v.ownBlock=some g):base≤g:=by
 rcases h.2 with ⟨rfl,_⟩ | ⟨g',cap,cur,rfl,hb,_⟩
 ·simp [Value.ownBlock] at hg
 ·simp [Value.ownBlock] at hg
  omega
theorem own_slice {w:World} {base size n:Nat} {e:TypeId} {v:Value} {xs:List Value} (h:w.ownsRow base e size v n xs):∃ A c,v=.slice A n c∧(n≤c∧c≤maxLen):=by
 rcases h.2 with ⟨rfl,rfl⟩ | ⟨g,cap,_,rfl,_,_,hn,hm,_⟩
 ·exact ⟨none,0,rfl,lr_,Nat.zero_le _⟩
 ·exact ⟨_,_,rfl,hn,hm⟩
theorem Rd.of_own {w:World} {base size n c:Nat} {e:TypeId} {A:Option Addr} {xs:List Value} (h:w.ownsRow base e size (.slice A n c) n xs):Rd w w.heap.size size A n xs:=by
 refine ⟨h.1,fun hn=>?_⟩
 obtain ⟨g,cap,hv,_,hlt⟩:=h.form hn
 have hA:A=some ⟨g,0,none⟩:=by injection hv
 subst hA
 refine ⟨g,0,rfl,hlt,fun j u hu=>?_⟩
 have:=h.cells (g:=g) rfl j u hu
 have hadd:(⟨g,0,none⟩:Addr).add j=⟨g,0+j,none⟩:=by unfold Addr.add;split <;> simp_all
 rwa [hadd] at this
theorem take_snoc_some {α:Type} {l:List α} {k:Nat} {d:α} (h:l[k]?=some d):l.take (k+1)=l.take k ++ [d]:=by
 rw [List.take_add_one,h]
 rfl
theorem deedCells_drop (ds:List Deed) (k:Nat):deedCells (ds.drop k)=(deedCells ds).drop (k*9):=by
 induction ds generalizing k with
 | nil=>simp [deedCells]
 | cons d ds ih =>
   cases k with
   | zero=>simp
   | succ k =>
     rw [List.drop_succ_cons,ih,deedCells_cons,List.drop_append]
     have h1:∀ l:List Value,l.length=9→l.drop ((k+1)*9)=[]:=fun l hl=>List.drop_eq_nil_of_le (by omega)
     rw [h1 _ rfl,List.nil_append]
     congr 1
     simp only [List.length_cons,List.length_nil]
     omega
theorem Ds.drop {w:World} {B n b o:Nat} {ds:List Deed} (h:Ds w B (some ⟨b,o,none⟩) n ds) {k:Nat} (hk:k≤n):Ds w B (some ⟨b,o+k*9,none⟩) (n - k) (ds.drop k):=by
 refine ⟨by rw [deedCells_length,List.length_drop,h.len],fun hn=>?_⟩
 obtain ⟨b',o',e,hb,hc⟩:=h.2 (by omega)
 obtain ⟨rfl,rfl⟩:b=b'∧o=o':=by simpa using e
 refine ⟨b,o+k*9,rfl,hb,fun j u hu=>?_⟩
 rw [deedCells_drop,List.getElem?_drop] at hu
 rw [Nat.add_assoc]
 exact hc _ _ hu
end Go.Proofs.YtmcmbicapdcfmaaGreat
