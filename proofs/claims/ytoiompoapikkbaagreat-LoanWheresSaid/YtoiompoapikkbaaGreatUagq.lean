/- Layer 2 of the texts that LoanWheres takes: Uagq. -/
import Derived.Test.YtoiompoapikkbaaGreatUaeq
import Derived.Test.YtoiompoapikkbaaGreatUafq
set_option linter.unusedVariables false
set_option linter.unusedSimpArgs false
/- What a thread tells of a day: its states that may be; threads that are read out of their map. -/
namespace Go.Proofs.YtoiompoapikkbaaGreat
open Go.RowKit Go.Maps
theorem SS.ext {xs ys:List Int} (hx:SS xs) (hy:SS ys) (h:∀ a,a∈xs↔a∈ys):xs=ys:=by
 unfold SS at hx hy
 induction xs generalizing ys with
 | nil =>
   cases ys with
   | nil=>rfl
   | cons y ys=>exact absurd ((h y).2 (by simp)) (by simp)
 | cons x xs ih =>
   cases ys with
   | nil=>exact absurd ((h x).1 (by simp)) (by simp)
   | cons y ys =>
     rw [List.pairwise_cons] at hx hy
     have hxy:x=y:=by
      rcases List.mem_cons.1 ((h x).1 (by simp)) with e | m
      ·exact e
      ·rcases List.mem_cons.1 ((h y).2 (by simp)) with e | m2
       ·exact e.symm
       ·have:=hy.1 x m
        have:=hx.1 y m2
        omega
     subst hxy
     rw [ih hx.2 hy.2 fun a=>?_]
     constructor
     ·intro ha
      rcases List.mem_cons.1 ((h a).1 (by simp [ha])) with e | m
      ·have:=hx.1 a ha;omega
      ·exact m
     ·intro ha
      rcases List.mem_cons.1 ((h a).2 (by simp [ha])) with e | m
      ·have:=hy.1 a ha;omega
      ·exact m
def RdIn (w:World) (lo B size:Nat) (A:Option Addr) (n:Nat) (xs:List Value):Prop :=
 xs.length=n*size∧(0<n→∃ b o,A=some ⟨b,o,none⟩∧lo≤b∧b<B∧∀ j u,xs[j]?=some u→w.cell? ⟨b,o+j,none⟩=some u)
section
variable {w w':World} {lo B B' size n:Nat} {A:Option Addr} {xs:List Value}
theorem RdIn.rd (h:RdIn w lo B size A n xs):Rd w B size A n xs:=⟨h.1,fun hn=>by obtain ⟨b,o,e,_,h2⟩:=h.2 hn;exact ⟨b,o,e,h2⟩⟩
theorem RdIn.keep (h:RdIn w lo B size A n xs) (hk:∀ k,lo≤k→k<B→w'.heap[k]?=w.heap[k]?):RdIn w' lo B size A n xs :=
 ⟨h.1,fun hn=>by
   obtain ⟨b,o,e,h1,h2,h3⟩:=h.2 hn
   refine ⟨b,o,e,h1,h2,fun j u hu=>?_⟩
   rw [← h3 j u hu]
   simp only [World.cell?,hk b h1 h2]⟩
theorem RdIn.more (h:RdIn w lo B size A n xs) (hB:B≤B'):RdIn w lo B' size A n xs :=
 ⟨h.1,fun hn=>by obtain ⟨b,o,e,h1,h2,h3⟩:=h.2 hn;exact ⟨b,o,e,h1,by omega,h3⟩⟩
theorem RdIn.of_own {base c:Nat} {e:TypeId} (h:w.ownsRow base e size (.slice A n c) n xs):RdIn w base w.heap.size size A n xs:=by
 have h1:=Rd.of_own h
 refine ⟨h1.1,fun hn=>?_⟩
 obtain ⟨b,o,e1,h2,h3⟩:=h1.2 hn
 refine ⟨b,o,e1,?_,h2,h3⟩
 rcases h.2 with ⟨_,h0⟩ | ⟨g,cap,cur,e2,hg,_⟩
 ·omega
 ·rw [e1] at e2
  cases e2
  exact hg
end
structure ThrAt (w:World) (lo B:Nat) (T:TL) (Ad Ai As:Option Addr) (cd ci cs:Nat):Prop where
 rd:RdIn w lo B 9 Ad T.length (deedCells (T.map (·.1)))
 ri:RdIn w lo B 1 Ai T.length ((T.map fun x=>(x.2:Int)).map fun x=>.int .i64 x)
 rs:RdIn w lo B 3 As T.length (stCells (aftL (T.map (·.1))))
 cd:T.length≤cd
 ci:T.length≤ci
 cs:T.length≤cs
section
variable {w w':World} {lo B B':Nat} {T:TL} {Ad Ai As:Option Addr} {cd ci cs:Nat}
theorem ThrAt.d (h:ThrAt w lo B T Ad Ai As cd ci cs):Ds w B Ad T.length (T.map (·.1)):=h.rd.rd
theorem ThrAt.i (h:ThrAt w lo B T Ad Ai As cd ci cs):Is w B Ai T.length (T.map fun x=>(x.2:Int)):=h.ri.rd
theorem ThrAt.s (h:ThrAt w lo B T Ad Ai As cd ci cs):Ss w B As T.length (aftL (T.map (·.1))):=h.rs.rd
theorem ThrAt.keep (h:ThrAt w lo B T Ad Ai As cd ci cs) (hk:∀ k,lo≤k→k<B→w'.heap[k]?=w.heap[k]?):ThrAt w' lo B T Ad Ai As cd ci cs :=
 ⟨h.rd.keep hk,h.ri.keep hk,h.rs.keep hk,h.cd,h.ci,h.cs⟩
theorem ThrAt.below (h:ThrAt w lo B T Ad Ai As cd ci cs) (hb:Below B w w'):ThrAt w' lo B T Ad Ai As cd ci cs:=h.keep fun k _ hk=>hb.block k hk
theorem ThrAt.more (h:ThrAt w lo B T Ad Ai As cd ci cs) (hB:B≤B'):ThrAt w lo B' T Ad Ai As cd ci cs:=⟨h.rd.more hB,h.ri.more hB,h.rs.more hB,h.cd,h.ci,h.cs⟩
end
theorem ThrAt.low {w:World} {lo B:Nat} {T:TL} {Ad Ai As:Option Addr} {cd ci cs:Nat} (h:ThrAt w lo B T Ad Ai As cd ci cs):ThrAt w 0 B T Ad Ai As cd ci cs :=
 have g:∀ {size n:Nat} {A:Option Addr} {xs:List Value},RdIn w lo B size A n xs→RdIn w 0 B size A n xs:=fun r=>⟨r.1,fun hn=>by obtain ⟨b,o,e,_,h2⟩:=r.2 hn;exact ⟨b,o,e,Nat.zero_le _,h2⟩⟩
 ⟨g h.rd,g h.ri,g h.rs,h.cd,h.ci,h.cs⟩
structure ThR (w:World) (lo B bm:Nat) (S:Nm→TL):Prop where
 ge:lo≤bm
 lt:bm<B
 ex:∃ L,MapN w bm L∧∀ n,∃ Ad Ai As cd ci cs,(getM L n).getD zT=.agg #[.slice Ad (S n).length cd,.slice Ai (S n).length ci,.slice As (S n).length cs]∧ThrAt w lo B (S n) Ad Ai As cd ci cs
theorem ThR.keep {w w':World} {lo B bm:Nat} {S:Nm→TL} (h:ThR w lo B bm S) (hk:∀ k,lo≤k→k<B→w'.heap[k]?=w.heap[k]?):ThR w' lo B bm S :=
 ⟨h.ge,h.lt,by
   obtain ⟨L,hM,hL⟩:=h.ex
   refine ⟨L,hM.keep (hk bm h.ge h.lt),fun n=>?_⟩
   obtain ⟨Ad,Ai,As,cd,ci,cs,e,ht⟩:=hL n
   exact ⟨Ad,Ai,As,cd,ci,cs,e,ht.keep hk⟩⟩
theorem ThR.below {w w':World} {lo B bm:Nat} {S:Nm→TL} (h:ThR w lo B bm S) (hb:Below B w w'):ThR w' lo B bm S:=h.keep fun k _ hk=>hb.block k hk
end Go.Proofs.YtoiompoapikkbaaGreat
/- The iterator over a thread's states. -/
namespace Go.Proofs.YtoiompoapikkbaaGreat
open Go.RowKit Go.Shelf Go.Maps
attribute [local go_sem] Oper.semAt_some
structure KeepP (P:Nat→Prop) (W W':World):Prop where
 size:W.heap.size≤W'.heap.size
 blk:∀ k,P k→W'.heap[k]?=W.heap[k]?
section
variable {P:Nat→Prop} {W W':World}
theorem KeepP.refl (P:Nat→Prop) (W:World):KeepP P W W:=⟨Nat.le_refl _,fun _ _=>rfl⟩
theorem KeepP.trans {X Y Z:World} (h:KeepP P X Y) (k:KeepP P Y Z):KeepP P X Z:=⟨Nat.le_trans h.size k.size,fun i hi=>(k.blk i hi).trans (h.blk i hi)⟩
theorem KeepP.cell (h:KeepP P W W') {b:Nat} (hb:P b) (o:Nat):W'.cell? ⟨b,o,none⟩=W.cell? ⟨b,o,none⟩:=by simp only [World.cell?,h.blk b hb]
theorem KeepP.of_below {B:Nat} (h:Below B W W') (hP:∀ k,P k→k<B):KeepP P W W':=⟨h.size,fun k hk=>h.block k (hP k hk)⟩
theorem KeepP.drew (W:World):KeepP P W W.drew:=⟨Nat.le_refl _,fun _ _=>rfl⟩
theorem KeepP.setCell {a:Addr} (W:World) (v:Value) (h:¬ P a.block):KeepP P W (W.setCell a v) :=
 ⟨by simp,fun k hk=>Below.heap_setCell _ _ _ _ fun e=>h (e ▸ hk)⟩
theorem keepP_b {w:World} (hP:∀ k,P k→k<w.heap.size):∀ (W:World) (l:Nat) (o o':Obj),w.heap.size≤l→W.heap[l]?=some o→o.isCells=false→o.isWalk=false→KeepP P W (W.putObj l o'):=fun W l o o' hl _ _ _ =>
 ⟨by simp,fun k hk=>World.putObj_heap_other (by have:=hP k hk;omega)⟩
end
theorem keepP_t {P:Nat→Prop}:∀ {A B C:World},KeepP P A B→KeepP P B C→KeepP P A C:=fun h k=>h.trans k
theorem grown_of_below {W W':World} (h:Below W.heap.size W W'):W.grownBy W' none:=⟨h.os,h.tape,h.output,h.size,fun k hk _=>h.block k hk⟩
end Go.Proofs.YtoiompoapikkbaaGreat
/- ask. -/
namespace Go.Proofs.YtoiompoapikkbaaGreat
open Go.RowKit Go.Shelf Go.Maps
attribute [local go_sem] Oper.semAt_some
def BoxA (W:World) (B:Nat) (t:TypeId) (cs:Array Value):Prop:=W.heap[B]?=some (.cells cs t (0,0))
section
variable {W W':World} {B:Nat} {t:TypeId} {cs:Array Value}
theorem BoxA.lt (h:BoxA W B t cs):B<W.heap.size:=(Array.getElem?_eq_some_iff.1 h).1
theorem BoxA.cell (h:BoxA W B t cs) (o:Nat):W.cell? ⟨B,o,none⟩=cs[o]?:=by simp [World.cell?,show W.heap[B]?=_ from h]
theorem BoxA.new (W:World) (t:TypeId) (cs:Array Value):BoxA (W.alloc (.cells cs t)) W.heap.size t cs:=World.alloc_heap_new W _
theorem BoxA.kept {row:Option Nat} (h:BoxA W B t cs) (hg:W.grownBy W' row) (hne:some B≠row):BoxA W' B t cs:=(hg.block B h.lt hne).trans h
theorem BoxA.alloc (h:BoxA W B t cs) (o:Obj):BoxA (W.alloc o) B t cs:=h.kept (World.grownBy_alloc W o none) (by simp)
theorem BoxA.ext (h:BoxA W B t cs) (hb:Below W.heap.size W W'):BoxA W' B t cs:=(hb.block B h.lt).trans h
end
theorem boxa_own {β:Type} (B:Nat) (t:TypeId) (f:β→Array Value):Own (fun s W=>BoxA W B t (f s)):=fun s X Y row hs hg hrow =>
 hs.kept hg (fun e'=>by obtain ⟨o,ho,hc⟩:=hrow B e'.symm;rw [show X.heap[B]?=_ from hs] at ho;cases ho;cases hc)
theorem alloc_get (w:World) (o:Obj) (k:Nat):(w.alloc o).heap[k]?=if k=w.heap.size then some o else w.heap[k]?:=by
 show (w.heap.push o)[k]?=_
 rw [Array.getElem?_push]
theorem drew_heap (w:World):w.drew.heap=w.heap:=rfl
theorem boxed_iff {W:World} {B:Nat} {t:TypeId} {v:Value}:Boxed W B t v↔W.heap[B]?=some (.cells #[v] t (0,0)):=Iff.rfl
theorem boxa_iff {W:World} {B:Nat} {t:TypeId} {cs:Array Value}:BoxA W B t cs↔W.heap[B]?=some (.cells cs t (0,0)):=Iff.rfl
end Go.Proofs.YtoiompoapikkbaaGreat
