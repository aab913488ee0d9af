/- Layer 2 of the texts that LoanBack takes: Bakq. -/
import Derived.Test.YtmcmbicapdcfmaaGreatBagq
import Derived.Test.YtmcmbicapdcfmaaGreatBajq
set_option linter.unusedVariables false
set_option linter.unusedSimpArgs false
set_option maxHeartbeats 16000000
namespace Go.Proofs.YtmcmbicapdcfmaaGreat
open Go.RowKit Go.Maps
abbrev zT:Value:=.agg #[.slice none 0 0,.slice none 0 0,.slice none 0 0]
theorem wf_small {x:Int} (h0:0≤x) (h1:x≤1000000):(Lit.int .i64 x).wf=true:=WalkArith.wf_i64 (by omega)
def S6 (b7 b6 be:Nat) (v0 v1 v2 k p:Value) (o:Obj) (V:World):Prop :=
 V.cell? ⟨b7,0,none⟩=some v0∧V.cell? ⟨b7,1,none⟩=some v1∧V.cell? ⟨b7,2,none⟩=some v2∧V.cell? ⟨b6,2,none⟩=some k∧V.cell? ⟨b6,4,none⟩=some p∧V.heap[be]?=some o
theorem S6.ext {V V':World} {b7 b6 be:Nat} {v0 v1 v2 k p:Value} {o:Obj} (hb:Below V.heap.size V V') (h:S6 b7 b6 be v0 v1 v2 k p o V):S6 b7 b6 be v0 v1 v2 k p o V':=by
 obtain ⟨h0,h1,h2,h3,h4,ho⟩:=h
 have g:∀ (a:Addr) (v:Value),V.cell? a=some v→V'.cell? a=some v:=fun a v h=>(hb.cell (World.block_lt_of_cell? V a h)).trans h
 exact ⟨g _ _ h0,g _ _ h1,g _ _ h2,g _ _ h3,g _ _ h4,(hb.block be (block_lt ho)).trans ho⟩
theorem S6.grown {V V':World} {b7 b6 be:Nat} {v0 v1 v2 k p:Value} {o:Obj} {row:Option Nat} (hg:V.grownBy V' row) (n7:some b7≠row) (n6:some b6≠row) (ne:some be≠row) (h:S6 b7 b6 be v0 v1 v2 k p o V):S6 b7 b6 be v0 v1 v2 k p o V':=by
 obtain ⟨h0,h1,h2,h3,h4,ho⟩:=h
 have g:∀ (a:Addr) (v:Value),some a.block≠row→V.cell? a=some v→V'.cell? a=some v:=fun a v hn h=>(hg.cell_far a (World.block_lt_of_cell? V a h) hn).trans h
 exact ⟨g _ _ n7 h0,g _ _ n7 h1,g _ _ n7 h2,g _ _ n6 h3,g _ _ n6 h4,(hg.block be (block_lt ho) ne).trans ho⟩
def S9 (b7 b6:Nat) (v0 v1 v2:Value) (d:Deed) (V:World):Prop :=
 V.cell? ⟨b7,0,none⟩=some v0∧V.cell? ⟨b7,1,none⟩=some v1∧V.cell? ⟨b7,2,none⟩=some v2∧World.cell? V ⟨b6,0,none⟩=some (.int .i64 d.par)∧World.cell? V ⟨b6,1,none⟩=some (.int .i64 d.no)∧World.cell? V ⟨b6,2,none⟩=some (.int .i64 d.kind)∧World.cell? V ⟨b6,3,none⟩=some (.int .i64 d.lock)∧World.cell? V ⟨b6,4,none⟩=some (.int .i64 d.person)∧World.cell? V ⟨b6,5,none⟩=some (.int .i64 d.lo)∧World.cell? V ⟨b6,6,none⟩=some (.int .i64 d.hi)∧World.cell? V ⟨b6,7,none⟩=some (.int .i64 d.known)∧World.cell? V ⟨b6,8,none⟩=some (.int .i64 d.til)
theorem SS.ext {xs ys:List Int} (hx:SS xs) (hy:SS ys) (h:∀ a,a∈xs↔a∈ys):xs=ys:=by
 unfold SS at hx hy
 induction xs generalizing ys with
 | nil =>
   cases ys with
   | nil=>rfl
   | cons y ys=>exact absurd ((h y).2 (by simp)) (by simp)
 | cons x xs ih =>
   cases ys with
   | nil=>exact absurd ((h x).1 (by simp)) (by simp)
   | cons y ys =>
     rw [List.pairwise_cons] at hx hy
     have hxy:x=y:=by
      rcases List.mem_cons.1 ((h x).1 (by simp)) with e | m
      ·exact e
      ·rcases List.mem_cons.1 ((h y).2 (by simp)) with e | m2
       ·exact e.symm
       ·have:=hy.1 x m
        have:=hx.1 y m2
        omega
     subst hxy
     rw [ih hx.2 hy.2 fun a=>?_]
     constructor
     ·intro ha
      rcases List.mem_cons.1 ((h a).1 (by simp [ha])) with e | m
      ·have:=hx.1 a ha;omega
      ·exact m
     ·intro ha
      rcases List.mem_cons.1 ((h a).2 (by simp [ha])) with e | m
      ·have:=hy.1 a ha;omega
      ·exact m
def RdIn (w:World) (lo B size:Nat) (A:Option Addr) (n:Nat) (xs:List Value):Prop :=
 xs.length=n*size∧(0<n→∃ b o,A=some ⟨b,o,none⟩∧lo≤b∧b<B∧∀ j u,xs[j]?=some u→w.cell? ⟨b,o+j,none⟩=some u)
section
variable {w w':World} {lo B B' size n:Nat} {A:Option Addr} {xs:List Value}
theorem RdIn.rd (h:RdIn w lo B size A n xs):Rd w B size A n xs:=⟨h.1,fun hn=>by obtain ⟨b,o,e,_,h2⟩:=h.2 hn;exact ⟨b,o,e,h2⟩⟩
theorem RdIn.keep (h:RdIn w lo B size A n xs) (hk:∀ k,lo≤k→k<B→w'.heap[k]?=w.heap[k]?):RdIn w' lo B size A n xs :=
 ⟨h.1,fun hn=>by
   obtain ⟨b,o,e,h1,h2,h3⟩:=h.2 hn
   refine ⟨b,o,e,h1,h2,fun j u hu=>?_⟩
   rw [← h3 j u hu]
   simp only [World.cell?,hk b h1 h2]⟩
theorem RdIn.more (h:RdIn w lo B size A n xs) (hB:B≤B'):RdIn w lo B' size A n xs :=
 ⟨h.1,fun hn=>by obtain ⟨b,o,e,h1,h2,h3⟩:=h.2 hn;exact ⟨b,o,e,h1,by omega,h3⟩⟩
theorem RdIn.of_own {base c:Nat} {e:TypeId} (h:w.ownsRow base e size (.slice A n c) n xs):RdIn w base w.heap.size size A n xs:=by
 have h1:=Rd.of_own h
 refine ⟨h1.1,fun hn=>?_⟩
 obtain ⟨b,o,e1,h2,h3⟩:=h1.2 hn
 refine ⟨b,o,e1,?_,h2,h3⟩
 rcases h.2 with ⟨_,h0⟩ | ⟨g,cap,cur,e2,hg,_⟩
 ·omega
 ·rw [e1] at e2
  cases e2
  exact hg
end
structure ThrAt (w:World) (lo B:Nat) (T:TL) (Ad Ai As:Option Addr) (cd ci cs:Nat):Prop where
 rd:RdIn w lo B 9 Ad T.length (deedCells (T.map (·.1)))
 ri:RdIn w lo B 1 Ai T.length ((T.map fun x=>(x.2:Int)).map fun x=>.int .i64 x)
 rs:RdIn w lo B 3 As T.length (stCells (aftL (T.map (·.1))))
 cd:T.length≤cd
 ci:T.length≤ci
 cs:T.length≤cs
section
variable {w w':World} {lo B B':Nat} {T:TL} {Ad Ai As:Option Addr} {cd ci cs:Nat}
theorem ThrAt.d (h:ThrAt w lo B T Ad Ai As cd ci cs):Ds w B Ad T.length (T.map (·.1)):=h.rd.rd
theorem ThrAt.i (h:ThrAt w lo B T Ad Ai As cd ci cs):Is w B Ai T.length (T.map fun x=>(x.2:Int)):=h.ri.rd
theorem ThrAt.s (h:ThrAt w lo B T Ad Ai As cd ci cs):Ss w B As T.length (aftL (T.map (·.1))):=h.rs.rd
theorem ThrAt.keep (h:ThrAt w lo B T Ad Ai As cd ci cs) (hk:∀ k,lo≤k→k<B→w'.heap[k]?=w.heap[k]?):ThrAt w' lo B T Ad Ai As cd ci cs :=
 ⟨h.rd.keep hk,h.ri.keep hk,h.rs.keep hk,h.cd,h.ci,h.cs⟩
theorem ThrAt.below (h:ThrAt w lo B T Ad Ai As cd ci cs) (hb:Below B w w'):ThrAt w' lo B T Ad Ai As cd ci cs:=h.keep fun k _ hk=>hb.block k hk
theorem ThrAt.more (h:ThrAt w lo B T Ad Ai As cd ci cs) (hB:B≤B'):ThrAt w lo B' T Ad Ai As cd ci cs:=⟨h.rd.more hB,h.ri.more hB,h.rs.more hB,h.cd,h.ci,h.cs⟩
end
theorem ThrAt.low {w:World} {lo B:Nat} {T:TL} {Ad Ai As:Option Addr} {cd ci cs:Nat} (h:ThrAt w lo B T Ad Ai As cd ci cs):ThrAt w 0 B T Ad Ai As cd ci cs :=
 have g:∀ {size n:Nat} {A:Option Addr} {xs:List Value},RdIn w lo B size A n xs→RdIn w 0 B size A n xs:=fun r=>⟨r.1,fun hn=>by obtain ⟨b,o,e,_,h2⟩:=r.2 hn;exact ⟨b,o,e,Nat.zero_le _,h2⟩⟩
 ⟨g h.rd,g h.ri,g h.rs,h.cd,h.ci,h.cs⟩
structure ThR (w:World) (lo B bm:Nat) (S:Nm→TL):Prop where
 ge:lo≤bm
 lt:bm<B
 ex:∃ L,MapN w bm L∧∀ n,∃ Ad Ai As cd ci cs,(getM L n).getD zT=.agg #[.slice Ad (S n).length cd,.slice Ai (S n).length ci,.slice As (S n).length cs]∧ThrAt w lo B (S n) Ad Ai As cd ci cs
theorem ThR.keep {w w':World} {lo B bm:Nat} {S:Nm→TL} (h:ThR w lo B bm S) (hk:∀ k,lo≤k→k<B→w'.heap[k]?=w.heap[k]?):ThR w' lo B bm S :=
 ⟨h.ge,h.lt,by
   obtain ⟨L,hM,hL⟩:=h.ex
   refine ⟨L,hM.keep (hk bm h.ge h.lt),fun n=>?_⟩
   obtain ⟨Ad,Ai,As,cd,ci,cs,e,ht⟩:=hL n
   exact ⟨Ad,Ai,As,cd,ci,cs,e,ht.keep hk⟩⟩
theorem ThR.below {w w':World} {lo B bm:Nat} {S:Nm→TL} (h:ThR w lo B bm S) (hb:Below B w w'):ThR w' lo B bm S:=h.keep fun k _ hk=>hb.block k hk
end Go.Proofs.YtmcmbicapdcfmaaGreat
namespace Go.Proofs.YtmcmbicapdcfmaaGreat
open Go.RowKit Go.Shelf Go.Maps
attribute [local go_sem] Oper.semAt_some
structure KeepP (P:Nat→Prop) (W W':World):Prop where
 size:W.heap.size≤W'.heap.size
 blk:∀ k,P k→W'.heap[k]?=W.heap[k]?
section
variable {P:Nat→Prop} {W W':World}
theorem KeepP.refl (P:Nat→Prop) (W:World):KeepP P W W:=⟨lr_,fun _ _=>rfl⟩
theorem KeepP.trans {X Y Z:World} (h:KeepP P X Y) (k:KeepP P Y Z):KeepP P X Z:=⟨Nat.le_trans h.size k.size,fun i hi=>(k.blk i hi).trans (h.blk i hi)⟩
theorem KeepP.cell (h:KeepP P W W') {b:Nat} (hb:P b) (o:Nat):W'.cell? ⟨b,o,none⟩=W.cell? ⟨b,o,none⟩:=by simp only [World.cell?,h.blk b hb]
theorem KeepP.of_below {B:Nat} (h:Below B W W') (hP:∀ k,P k→k<B):KeepP P W W':=⟨h.size,fun k hk=>h.block k (hP k hk)⟩
theorem KeepP.drew (W:World):KeepP P W W.drew:=⟨lr_,fun _ _=>rfl⟩
theorem KeepP.setCell {a:Addr} (W:World) (v:Value) (h:¬ P a.block):KeepP P W (W.setCell a v) :=
 ⟨by simp,fun k hk=>Below.heap_setCell _ _ _ _ fun e=>h (e ▸ hk)⟩
theorem keepP_b {w:World} (hP:∀ k,P k→k<w.heap.size):∀ (W:World) (l:Nat) (o o':Obj),w.heap.size≤l→W.heap[l]?=some o→o.isCells=false→o.isWalk=false→KeepP P W (W.putObj l o'):=fun W l o o' hl _ _ _ =>
 ⟨by simp,fun k hk=>World.putObj_heap_other (by have:=hP k hk;omega)⟩
end
theorem keepP_t {P:Nat→Prop}:∀ {A B C:World},KeepP P A B→KeepP P B C→KeepP P A C:=fun h k=>h.trans k
theorem grown_of_below {W W':World} (h:Below W.heap.size W W'):W.grownBy W' none:=⟨h.os,h.tape,h.output,h.size,fun k hk _=>h.block k hk⟩
attribute [local go_sem] Oper.semAt_some
def BoxA (W:World) (B:Nat) (t:TypeId) (cs:Array Value):Prop:=W.heap[B]?=some (.cells cs t (0,0))
section
variable {W W':World} {B:Nat} {t:TypeId} {cs:Array Value}
theorem BoxA.lt (h:BoxA W B t cs):B<W.heap.size:=(Array.getElem?_eq_some_iff.1 h).1
theorem BoxA.cell (h:BoxA W B t cs) (o:Nat):W.cell? ⟨B,o,none⟩=cs[o]?:=by simp [World.cell?,show W.heap[B]?=_ from h]
theorem BoxA.new (W:World) (t:TypeId) (cs:Array Value):BoxA (W.alloc (.cells cs t)) W.heap.size t cs:=World.alloc_heap_new W _
theorem BoxA.kept {row:Option Nat} (h:BoxA W B t cs) (hg:W.grownBy W' row) (hne:some B≠row):BoxA W' B t cs:=(hg.block B h.lt hne).trans h
theorem BoxA.alloc (h:BoxA W B t cs) (o:Obj):BoxA (W.alloc o) B t cs:=h.kept (World.grownBy_alloc W o none) (by simp)
theorem BoxA.ext (h:BoxA W B t cs) (hb:Below W.heap.size W W'):BoxA W' B t cs:=(hb.block B h.lt).trans h
end
theorem boxa_own {β:Type} (B:Nat) (t:TypeId) (f:β→Array Value):Own (fun s W=>BoxA W B t (f s)):=fun s X Y row hs hg hrow =>
 hs.kept hg (fun e'=>by obtain ⟨o,ho,hc⟩:=hrow B e'.symm;rw [show X.heap[B]?=_ from hs] at ho;cases ho;cases hc)
theorem alloc_get (w:World) (o:Obj) (k:Nat):(w.alloc o).heap[k]?=if k=w.heap.size then some o else w.heap[k]?:=by
 show (w.heap.push o)[k]?=_
 rw [Array.getElem?_push]
theorem drew_heap (w:World):w.drew.heap=w.heap:=rfl
theorem boxed_iff {W:World} {B:Nat} {t:TypeId} {v:Value}:Boxed W B t v↔W.heap[B]?=some (.cells #[v] t (0,0)):=Iff.rfl
theorem boxa_iff {W:World} {B:Nat} {t:TypeId} {cs:Array Value}:BoxA W B t cs↔W.heap[B]?=some (.cells cs t (0,0)):=Iff.rfl
attribute [local go_sem] Oper.semAt_some
theorem wpIn_named2 {F:Fence} {n:Nat} {P:Program} {c:Code} {Q:Exit→Act→World→Prop} {a:Act} {w:World} (h:∀ a0 W,a=a0→w=W→c.wpIn F n P Q a0 W):c.wpIn F n P Q a w:=h a w rfl rfl
def Coll (base bp:Nat) (m:Nat) (M:Int→Prop) (W:World):Prop :=
 ∃ v xs,Boxed W bp 33 v∧W.ownsRow base 3 1 v xs.length (xs.map fun x=>.int .i64 x)∧SS xs∧xs.length≤m∧∀ a,a∈xs↔M a
theorem Coll.kept {base bp m:Nat} {M:Int→Prop} {X Y:World} {row:Option Nat} (h:Coll base bp m M X) (hg:X.grownBy Y row) (hr:∀ r,row=some r→∃ o:Obj,X.heap[r]?=some o∧o.isCells=false):Coll base bp m M Y:=by
 obtain ⟨v,xs,hv,ho,h3⟩:=h
 refine ⟨v,xs,hv.kept hg (fun e=>?_),own_keep ho (fun b hb=>?_),h3⟩
 ·obtain ⟨o,h1,h2⟩:=hr bp e.symm
  rw [show X.heap[bp]?=_ from hv] at h1
  cases h1
  cases h2
 ·obtain ⟨cur,hh⟩:=own_block ho hb
  refine hg.block b (block_lt hh) fun e=>?_
  obtain ⟨o,h1,h2⟩:=hr b e.symm
  rw [hh] at h1
  cases h1
  cases h2
theorem Coll.congr {base bp m m':Nat} {M M':Int→Prop} {X:World} (h:Coll base bp m M X) (hm:m≤m') (hM:∀ a,M a↔M' a):Coll base bp m' M' X:=by
 obtain ⟨v,xs,hv,ho,h1,h2,h3⟩:=h
 exact ⟨v,xs,hv,ho,h1,by omega,fun a=>(h3 a).trans (hM a)⟩
end Go.Proofs.YtmcmbicapdcfmaaGreat
namespace Go.Proofs.YtmcmbicapdcfmaaGreat
open Go.RowKit Go.Maps
section
variable {P:Program} {k E T:TypeId} {w:World} {b:Nat} {es:Array MapEntry} {clock:Nat} {x v z:Value} {lx:Lit}
theorem map_look2_hit (K:Keyed P k) (ht:P.underlying T=some (.map k E)) (hb:w.heap[b]?=some (.map es clock)) (hx:keyOf P k x=some lx) (hall:∀ e∈es.toList,∃ l,keyOf P k e.key=some l)
 (hex:∃ e∈es.toList,e.key=x) (hv:∀ e∈es.toList,e.key=x→e.val=v):(Instr.lookup T (.map (some b)) x true).run P w=.ok (.tuple #[v,.bool true]) w:=by
 have h1:=K.check w es.isEmpty hx
 rcases K.find w hx es.toList hall with ⟨_,h3⟩ | ⟨j,e,h2,h3,h4⟩
 ·obtain ⟨e,he,hk⟩:=hex
  exact absurd hk (h3 e he)
 ·have:=hv e (List.mem_of_getElem? h3) h4
  simp [Instr.lookup,run_underlying ht,MapKept.run_getObj_map hb,h1,h2,this,Result.andThen]
theorem map_look2_miss (K:Keyed P k) (ht:P.underlying T=some (.map k E)) (hb:w.heap[b]?=some (.map es clock)) (hx:keyOf P k x=some lx) (hall:∀ e∈es.toList,∃ l,keyOf P k e.key=some l)
 (hno:∀ e∈es.toList,e.key≠x) (hz:(zeroValue E).run P w=.ok z w):(Instr.lookup T (.map (some b)) x true).run P w=.ok (.tuple #[z,.bool false]) w:=by
 have h1:=K.check w es.isEmpty hx
 rcases K.find w hx es.toList hall with ⟨h2,_⟩ | ⟨j,e,h2,h3,h4⟩
 ·simp [Instr.lookup,run_underlying ht,MapKept.run_getObj_map hb,h1,h2,hz,Result.andThen]
 ·exact absurd h4 (hno e (List.mem_of_getElem? h3))
end
section
variable {κ:Type}
def getG [DecidableEq κ] (L:List (κ × Value)) (k:κ):Option Value:=match L with
 | []=>none
 | x :: l=>if x.1=k then some x.2 else getG l k
def putG [DecidableEq κ] (L:List (κ × Value)) (k:κ) (v:Value):List (κ × Value):=match L with
 | []=>[(k,v)]
 | x :: l=>if x.1=k then (k,v) :: l else x :: putG l k v
theorem getG_mem [DecidableEq κ] {L:List (κ × Value)} {k:κ} {v:Value} (h:getG L k=some v):(k,v)∈L:=by
 induction L with
 | nil=>simp [getG] at h
 | cons x l ih =>
   by_cases hx:x.1=k
   ·simp only [getG,hx,if_true,Option.some.injEq] at h
    subst h
    rw [← hx]
    simp
   ·simp only [getG,hx,if_false] at h
    exact List.mem_cons_of_mem _ (ih h)
theorem getG_none [DecidableEq κ] {L:List (κ × Value)} {k:κ} (h:getG L k=none):∀ x∈L,x.1≠k:=by
 induction L with
 | nil=>simp
 | cons x l ih =>
   by_cases hx:x.1=k
   ·simp [getG,hx] at h
   ·simp only [getG,hx,if_false] at h
    intro y hy
    rcases List.mem_cons.1 hy with rfl | hy
    ·exact hx
    ·exact ih h y hy
theorem putG_keys [DecidableEq κ] (L:List (κ × Value)) (k:κ) (v:Value):∀ x∈putG L k v,x.1=k∨∃ y∈L,y.1=x.1:=by
 induction L with
 | nil=>simp [putG]
 | cons y l ih =>
   intro x hx
   by_cases hy:y.1=k
   ·simp only [putG,hy,if_true,List.mem_cons] at hx
    rcases hx with rfl | hx
    ·exact .inl rfl
    ·exact .inr ⟨x,List.mem_cons_of_mem _ hx,rfl⟩
   ·simp only [putG,hy,if_false,List.mem_cons] at hx
    rcases hx with rfl | hx
    ·exact .inr ⟨x,List.mem_cons_self,rfl⟩
    ·rcases ih x hx with h | ⟨z,hz,e⟩
     ·exact .inl h
     ·exact .inr ⟨z,List.mem_cons_of_mem _ hz,e⟩
theorem putG_nodup [DecidableEq κ] {L:List (κ × Value)} (h:(L.map (·.1)).Nodup) (k:κ) (v:Value):((putG L k v).map (·.1)).Nodup:=by
 induction L with
 | nil=>simp [putG]
 | cons y l ih =>
   rw [List.map_cons,List.nodup_cons] at h
   by_cases hy:y.1=k
   ·simp only [putG,hy,if_true,List.map_cons,List.nodup_cons]
    exact ⟨by rw [← hy];exact h.1,h.2⟩
   ·simp only [putG,hy,if_false,List.map_cons,List.nodup_cons]
    refine ⟨fun hm=>?_,ih h.2⟩
    obtain ⟨x,hx,e⟩:=List.mem_map.1 hm
    rcases putG_keys l k v x hx with h1 | ⟨z,hz,e2⟩
    ·exact hy (e.symm.trans h1)
    ·exact h.1 (List.mem_map.2 ⟨z,hz,e2.trans e⟩)
theorem putG_none [DecidableEq κ] {L:List (κ × Value)} {k:κ} (h:getG L k=none) (v:Value):putG L k v=L ++ [(k,v)]:=by
 induction L with
 | nil=>rfl
 | cons x l ih =>
   by_cases hx:x.1=k
   ·simp [getG,hx] at h
   ·simp only [getG,hx,if_false] at h
    simp only [putG,hx,if_false,ih h,List.cons_append]
theorem putG_at [DecidableEq κ] {L:List (κ × Value)} {k:κ} {j:Nat} {u:Value} (hn:(L.map (·.1)).Nodup) (h:L[j]?=some (k,u)) (v:Value):putG L k v=L.set j (k,v):=by
 induction L generalizing j with
 | nil=>simp at h
 | cons x l ih =>
   rw [List.map_cons,List.nodup_cons] at hn
   cases j with
   | zero =>
     simp only [List.getElem?_cons_zero,Option.some.injEq] at h
     subst h
     simp [putG]
   | succ j =>
     have hm:(k,u)∈l:=List.mem_of_getElem? (by simpa using h)
     have hx:¬ x.1=k:=fun e=>hn.1 (List.mem_map.2 ⟨_,hm,e.symm⟩)
     simp only [putG,hx,if_false,List.set_cons_succ]
     rw [ih hn.2 (by simpa using h)]
theorem nodupG_val {L:List (κ × Value)} (h:(L.map (·.1)).Nodup) {k:κ} {u v:Value} (h1:(k,u)∈L) (h2:(k,v)∈L):u=v:=by
 induction L with
 | nil=>simp at h1
 | cons x l ih =>
   rw [List.map_cons,List.nodup_cons] at h
   rcases List.mem_cons.1 h1 with e1 | m1 <;> rcases List.mem_cons.1 h2 with e2 | m2
   ·rw [← e1] at e2;injection e2 with _ e3;exact e3.symm
   ·exact absurd (List.mem_map.2 ⟨_,m2,by rw [← e1]⟩) h.1
   ·exact absurd (List.mem_map.2 ⟨_,m1,by rw [← e2]⟩) h.1
   ·exact ih h.2 m1 m2
structure MapG (mk:κ→Value) (wf:κ→Prop) (w:World) (b:Nat) (L:List (κ × Value)):Prop where
 ex:∃ es clock,w.heap[b]?=some (.map es clock)∧es.toList.map (fun e=>(e.key,e.val))=L.map fun x=>(mk x.1,x.2)
 wf:∀ x∈L,wf x.1
 nodup:(L.map (·.1)).Nodup
structure KeyG (mk:κ→Value) (wf:κ→Prop) (k:TypeId):Prop where
 law:Keyed Tryz.prog k
 of:∀ a,wf a→∃ l,keyOf Tryz.prog k (mk a)=some l
 inj:∀ a b,mk a=mk b→a=b
variable {mk:κ→Value} {wf:κ→Prop} {k E T:TypeId} {w w':World} {b:Nat} {L:List (κ × Value)}
theorem MapG.made (w:World):MapG mk wf (w.alloc (.map #[] 0)) w.heap.size []:=⟨⟨#[],0,heap_alloc_new w _,rfl⟩,by simp,by simp⟩
theorem MapG.lt (h:MapG mk wf w b L):b<w.heap.size:=by
 obtain ⟨es,c,hb,_⟩:=h.ex
 exact block_lt hb
theorem MapG.keep (h:MapG mk wf w b L) (hb:w'.heap[b]?=w.heap[b]?):MapG mk wf w' b L :=
 ⟨by obtain ⟨es,c,h1,h2⟩:=h.ex;exact ⟨es,c,hb.trans h1,h2⟩,h.wf,h.nodup⟩
theorem MapG.ext (h:MapG mk wf w b L) (hb:Below w.heap.size w w'):MapG mk wf w' b L:=h.keep (hb.block b h.lt)
theorem MapG.alloc (h:MapG mk wf w b L) (o:Obj):MapG mk wf (w.alloc o) b L:=h.keep (Below.heap_alloc _ _ _ h.lt)
theorem MapG.setCell (h:MapG mk wf w b L) {a:Addr} (ha:b≠a.block) (v:Value):MapG mk wf (w.setCell a v) b L:=h.keep (Below.heap_setCell _ _ _ _ ha)
theorem MapG.facts (K:KeyG mk wf k) {es:Array MapEntry} (he:es.toList.map (fun e=>(e.key,e.val))=L.map fun x=>(mk x.1,x.2)) (hwf:∀ x∈L,wf x.1) :
 (∀ e∈es.toList,∃ x∈L,e.key=mk x.1∧e.val=x.2)∧(∀ x∈L,∃ e∈es.toList,e.key=mk x.1∧e.val=x.2)∧(∀ e∈es.toList,∃ l,keyOf Tryz.prog k e.key=some l):=by
 have h1:∀ e∈es.toList,∃ x∈L,e.key=mk x.1∧e.val=x.2:=fun e hm=>by
  have:(e.key,e.val)∈L.map fun x=>(mk x.1,x.2):=by rw [← he];exact List.mem_map.2 ⟨e,hm,rfl⟩
  obtain ⟨x,hx,e2⟩:=List.mem_map.1 this
  exact ⟨x,hx,(congrArg Prod.fst e2).symm,(congrArg Prod.snd e2).symm⟩
 refine ⟨h1,fun x hx=>?_,fun e hm=>?_⟩
 ·have:(mk x.1,x.2)∈es.toList.map (fun e=>(e.key,e.val)):=by rw [he];exact List.mem_map.2 ⟨x,hx,rfl⟩
  obtain ⟨e,hm,e2⟩:=List.mem_map.1 this
  exact ⟨e,hm,congrArg Prod.fst e2,congrArg Prod.snd e2⟩
 ·obtain ⟨x,hx,e2,_⟩:=h1 e hm
  rw [e2]
  exact K.of _ (hwf x hx)
theorem MapG.look2 [DecidableEq κ] (K:KeyG mk wf k) (ht:Tryz.prog.underlying T=some (.map k E)) (h:MapG mk wf w b L) {a:κ} (hk:wf a) {z:Value} (hz:(zeroValue E).run Tryz.prog w=.ok z w) :
 (Instr.lookup T (.map (some b)) (mk a) true).run Tryz.prog w=.ok (.tuple #[(getG L a).getD z,.bool (getG L a).isSome]) w:=by
 obtain ⟨es,clock,hb,he⟩:=h.ex
 obtain ⟨f1,f2,f3⟩:=MapG.facts K he h.wf
 obtain ⟨l,hl⟩:=K.of a hk
 cases hg:getG L a with
 | none =>
   refine map_look2_miss K.law ht hb hl f3 (fun e hm hkey=>?_) hz
   obtain ⟨x,hx,e1,_⟩:=f1 e hm
   exact getG_none hg x hx (K.inj _ _ (e1.symm.trans hkey))
 | some v =>
   have hm:=getG_mem hg
   obtain ⟨e,he1,he2,he3⟩:=f2 _ hm
   refine map_look2_hit K.law ht hb hl f3 ⟨e,he1,he2⟩ (fun e' hm' hkey=>?_)
   obtain ⟨x,hx,e1,e2⟩:=f1 e' hm'
   have hxk:x.1=a:=K.inj _ _ (e1.symm.trans hkey)
   rw [e2]
   exact nodupG_val h.nodup (by rw [← hxk];exact hx) hm
theorem MapG.update [DecidableEq κ] (K:KeyG mk wf k) (ht:Tryz.prog.underlying T=some (.map k E)) (h:MapG mk wf w b L) {a:κ} (hk:wf a) (v:Value) :
 ∃ es n,(Instr.mapUpdate T (.map (some b)) (mk a) v).run Tryz.prog w=.ok () (setObj' w b (.map es n))∧MapG mk wf (setObj' w b (.map es n)) b (putG L a v):=by
 obtain ⟨es,clock,hb,he⟩:=h.ex
 obtain ⟨f1,f2,f3⟩:=MapG.facts K he h.wf
 obtain ⟨l,hl⟩:=K.of a hk
 have hwf:∀ x∈putG L a v,wf x.1:=fun x hx=>by
  rcases putG_keys L a v x hx with e | ⟨y,hy,e⟩
  ·rw [e];exact hk
  ·rw [← e];exact h.wf y hy
 cases hg:getG L a with
 | none =>
   refine ⟨_,_,map_update_new K.law ht hb hl f3 (fun e hm hkey=>?_),⟨⟨_,_,setObj'_at h.lt _,?_⟩,hwf,putG_nodup h.nodup _ _⟩⟩
   ·obtain ⟨x,hx,e1,_⟩:=f1 e hm
    exact getG_none hg x hx (K.inj _ _ (e1.symm.trans hkey))
   ·rw [putG_none hg,Array.toList_push,List.map_append,List.map_append,he]
    rfl
 | some u =>
   have hm:=getG_mem hg
   obtain ⟨e,he1,he2,he3⟩:=f2 _ hm
   obtain ⟨j,e',hj,hkey,hrun⟩:=map_update_old (v:=v) K.law ht hb hl f3 ⟨e,he1,he2⟩
   refine ⟨_,_,hrun,⟨⟨_,_,setObj'_at h.lt _,?_⟩,hwf,putG_nodup h.nodup _ _⟩⟩
   have hlj:(L.map fun x=>(mk x.1,x.2))[j]?=some (e'.key,e'.val):=by rw [← he,List.getElem?_map,hj];rfl
   rw [List.getElem?_map] at hlj
   obtain ⟨x,hx,ex⟩:=Option.map_eq_some_iff.1 hlj
   have hxk:x.1=a:=K.inj _ _ ((congrArg Prod.fst ex).trans hkey)
   have hx2:L[j]?=some (a,x.2):=by rw [hx,← hxk]
   rw [putG_at h.nodup hx2,List.map_set,← he]
   apply List.ext_getElem?
   intro i
   simp only [Array.toList_modify,List.getElem?_map,List.getElem?_modify,List.getElem?_set,List.length_map]
   by_cases hij:j=i
   ·subst hij
    have hlt:j<es.toList.length:=(List.getElem?_eq_some_iff.1 hj).1
    have hj2:es[j]?=some e':=by simpa using hj
    have hlt2:j<es.size:=by simpa using hlt
    simp [hj2,hlt2]
   ·simp [hij]
end
end Go.Proofs.YtmcmbicapdcfmaaGreat
namespace Go.Proofs.YtmcmbicapdcfmaaGreat
open Go.RowKit Go.Shelf Go.Maps
attribute [local go_sem] Oper.semAt_some
def marks (l:List Nat):List Deferred:=l.map fun D=>{ target:=.collected D,args:=#[] }
structure Marked (base:Nat) (l:List Nat) (W:World):Prop where
 at_:∀ D∈l,W.heap[D]?=some (.deferred (some []))
 ge:∀ D∈l,base≤D
 nodup:l.Nodup
theorem Marked.keep {base:Nat} {l:List Nat} {W W':World} (h:Marked base l W) (hk:∀ D∈l,W'.heap[D]?=W.heap[D]?):Marked base l W' :=
 ⟨fun D hD=>(hk D hD).trans (h.at_ D hD),h.ge,h.nodup⟩
theorem Marked.lt {base:Nat} {l:List Nat} {W:World} (h:Marked base l W) {D:Nat} (hD:D∈l):D<W.heap.size:=block_lt (h.at_ D hD)
theorem Marked.kept {base:Nat} {l:List Nat} {W W':World} {row:Option Nat} (h:Marked base l W) (hg:W.grownBy W' row) (hr:∀ r,row=some r→r ∉ l):Marked base l W' :=
 h.keep fun D hD=>hg.block D (h.lt hD) fun e=>hr D e.symm hD
theorem leaves_marks {F:Fence} {n:Nat} {P:Program} {fn:Func} {tmps:Array Value} {R:Ending→World→Prop} {base:Nat} (l:List Nat):∀ (W:World),Marked base l W →
 (∀ W',Below base W W'→(∀ k,k ∉ l→W'.heap[k]?=W.heap[k]?)→LeavesInM F n P fn tmps R [] .returning W')→LeavesInM F n P fn tmps R (marks l) .returning W:=by
 induction l with
 | nil=>intro W _ h;exact h W (Below.refl _ _) fun _ _=>rfl
 | cons D l ih =>
   intro W hM h
   have hD:=hM.at_ D (by simp)
   have hnd:=List.nodup_cons.1 hM.nodup
   refine ⟨by simp,.inl ⟨D,_,rfl,run_takeDeferred hD,ih _ ⟨fun E hE=>?_,fun E hE=>hM.ge E (by simp [hE]),hnd.2⟩ fun W' hb hk=>h W' ?_ fun k hk'=>?_⟩⟩
   ·rw [World.putObj_heap_other (fun e=>hnd.1 (by rw [← e];exact hE))]
    exact hM.at_ E (by simp [hE])
   ·refine Below.trans (b:=W.putObj D (.deferred none)) ⟨rfl,rfl,rfl,by simp,fun k hk=>World.putObj_heap_other (by have:=hM.ge D (by simp);omega)⟩ hb
   ·have h1:=hk k (fun e=>hk' (by simp [e]))
    rw [h1,World.putObj_heap_other (fun e=>hk' (by simp [e]))]
theorem setObj'_grown (W:World) (b:Nat) (o:Obj):W.grownBy (setObj' W b o) (some b) :=
 ⟨rfl,rfl,rfl,by simp [setObj'],fun k _ hk=>setObj'_other (fun e=>hk (by rw [e])) o⟩
attribute [local go_sem] Oper.semAt_some
def cutQ (R:Act→World→Prop):Exit→Act→World→Prop
 | .normal,a,w=>R a w
 | _,_,_=>False
theorem wpIn_cut {F:Fence} {n:Nat} {P:Program} {c:Code} {Q:Exit→Act→World→Prop} {a:Act} {w:World} (R:Act→World→Prop) (h:c.wpIn F n P (cutQ R) a w) (h2:∀ a' w',R a' w'→Q .normal a' w'):c.wpIn F n P Q a w :=
 wpIn_mono h fun e a' w' hr=>by cases e <;> first | exact h2 _ _ hr | exact hr.elim
structure KeepQ (b:Nat) (P:Nat→Prop) (W W':World):Prop where
 size:W.heap.size≤W'.heap.size
 blk:∀ k,P k→W'.heap[k]?=W.heap[k]?
 new:∀ k,b≤k→k<W.heap.size→W'.heap[k]?=W.heap[k]?
section
variable {b:Nat} {P:Nat→Prop} {W W':World}
theorem KeepQ.refl (b:Nat) (P:Nat→Prop) (W:World):KeepQ b P W W:=⟨lr_,fun _ _=>rfl,fun _ _ _=>rfl⟩
theorem KeepQ.trans {X Y Z:World} (h:KeepQ b P X Y) (k:KeepQ b P Y Z):KeepQ b P X Z:=⟨Nat.le_trans h.size k.size,fun i hi=>(k.blk i hi).trans (h.blk i hi),fun i hb hi=>(k.new i hb (Nat.lt_of_lt_of_le hi h.size)).trans (h.new i hb hi)⟩
theorem KeepQ.from (h:KeepQ b P W W') {B:Nat} (hB:b≤B):KeepsFrom B W W':=⟨h.size,fun k o h1 h2 _=>(h.new k (by omega) (block_lt h2)).trans h2⟩
theorem KeepQ.box (h:KeepQ b P W W') {B:Nat} {t:TypeId} {cs:Array Value} (hb:BoxA W B t cs) (hB:b≤B):BoxA W' B t cs:=(h.new B hB hb.lt).trans hb
theorem KeepQ.of_below {B:Nat} (h:Below B W W') (hP:∀ k,P k→k<B) (hB:W.heap.size≤B):KeepQ b P W W':=⟨h.size,fun k hk=>h.block k (hP k hk),fun k _ hk=>h.block k (by omega)⟩
end
abbrev Sc:=(Nat × St) × (Nat × St) × (Nat × St)
theorem ownFrom_keepP {β:Type} {B:Nat} {P:Nat→Prop} (V0:World) (hP:∀ k,P k→k<B) (hV:∀ k,P k→k<V0.heap.size):OwnFrom B (fun (_:β) W=>KeepP P V0 W):=fun _ X Y row hs hg hr =>
 ⟨Nat.le_trans hs.size hg.size,fun k hk=>(hg.block k (Nat.lt_of_lt_of_le (hV k hk) hs.size) fun e=>by have:=(hr k e.symm).1;have:=hP k hk;omega).trans (hs.blk k hk)⟩
attribute [local go_sem] Oper.semAt_some
theorem KeepQ.putObj {b:Nat} {P:Nat→Prop} (W:World) (l:Nat) (o:Obj) (hP:¬ P l) (hb:l<b):KeepQ b P W (W.putObj l o) :=
 ⟨by simp,fun k hk=>World.putObj_heap_other (fun e=>hP (e ▸ hk)),fun k h1 _=>World.putObj_heap_other (by omega)⟩
theorem KeepQ.up {b b':Nat} {P:Nat→Prop} {W W':World} (h:KeepQ b P W W') (hb:b≤b'):KeepQ b' P W W':=⟨h.size,h.blk,fun k h1 h2=>h.new k (by omega) h2⟩
end Go.Proofs.YtmcmbicapdcfmaaGreat
namespace Go.Proofs.YtmcmbicapdcfmaaGreat
open Go.RowKit Go.Maps
theorem l_index (xs:List Int) (v:Int) (A:Option Addr) (n c:Nat) (w:World) (hn:n≤1000000) (h:Is w w.heap.size A n xs) :
 Calls Tryz.prog 123 #[.slice A n c,.int .i64 v] w fun e w'=>(∃ r:Int,e=.returned (.int .i64 r)∧(0≤r↔v∈xs))∧w=w':=by
 have HI:=hd_ h
 have HL:=hd_ h.len
 clear h
 go_enter Tryz.func123,Tryz.ntmps123
 go_wp2
 go_loop [8] (fun i=>∃ k:Nat,k≤n∧i=.int .i64 k∧v ∉ xs.take k) (fun i=>n - (intOf i).toNat)
 case atStart=>exact ⟨0,by omega,rfl,by simp⟩
 case round =>
  obtain ⟨k,hk,rfl,ho⟩:=hrel
  have HO:=hd_ ho
  clear ho
  by_cases hlt:k<n
  ·obtain ⟨b,o,x,rfl,hb,hx,hc⟩:=HI.out.at_ hlt
   have HX:=hd_ hx
   clear hx
   by_cases hw:v=x
   ·have hv:v∈xs:=by rw [hw];exact List.mem_of_getElem? HX.out
    have HV:Hid (v∈xs):=hv
    have h1:(v == x)=true:=by simpa using hw
    clear hw hv
    go_wp2
    go_ret
    exact ⟨⟨k,rfl,fun _=>HV.out,fun _=>by omega⟩,rfl⟩
   ·have h1:(v == x)=false:=by simpa using hw
    have H1:Hid (v ∉ xs.take (k+1)):=by
     show ¬ _
     rw [take_snoc_some HX.out,List.mem_append]
     rintro (h | h)
     ·exact HO.out h
     ·exact hw (by simpa using h)
    clear hw
    go_wp2
    go_round
    case rel=>exact ⟨k+1,by omega,by go_num,H1.out⟩
    case measure=>exact ms_
  ·have h1:v ∉ xs:=by
    have:=HO.out
    rwa [List.take_of_length_le (by rw [HL.out];omega)] at this
   have HV:Hid (v ∉ xs):=h1
   clear h1
   go_wp2
   go_ret
   exact ⟨⟨-1,rfl,fun h=>by omega,fun h=>absurd h HV.out⟩,rfl⟩
theorem l_contains (xs:List Int) (v:Int) (r:Bool) (A:Option Addr) (n c:Nat) (w:World) (hn:n≤1000000) (h:Is w w.heap.size A n xs) (hr:decide (v∈xs)=r) :
 Calls Tryz.prog 71 #[.slice A n c,.int .i64 v] w fun e w'=>e=.returned (.bool r)∧w=w':=by
 have HI:=hd_ h
 have HR:=hd_ hr
 clear h hr
 go_enter Tryz.func71,Tryz.ntmps71
 go_wp2_with (go_at_call 123;refine (l_index xs v _ _ _ _ hn HI.out).mono ?_;rintro e w1 ⟨⟨q,rfl,hq⟩,rfl⟩)
 go_ret
 exact ⟨ret_bool (by rw [← HR.out]),rfl⟩
end Go.Proofs.YtmcmbicapdcfmaaGreat
namespace Go.Proofs.YtmcmbicapdcfmaaGreat
open Go.RowKit Go.Shelf Go.Maps
attribute [local go_sem] Oper.semAt_some
def OwnW {β:Type} (B:Nat) (I:β→World→Prop):Prop :=
 ∀ s X Y row,I s X→X.grownBy Y row→(∀ r,row=some r→B≤r∧∃ o:Obj,X.heap[r]?=some o∧o.isCells=false∧o.isWalk=false)→I s Y
theorem OwnW.of {β:Type} {B:Nat} {I:β→World→Prop} (h:OwnFrom B I):OwnW B I:=fun s X Y row hs hg hr=>h s X Y row hs hg fun r e=>⟨(hr r e).1,by
 obtain ⟨o,h1,h2,_⟩:=(hr r e).2
 exact ⟨o,h1,h2⟩⟩
theorem OwnW.up {β:Type} {B B':Nat} {I:β→World→Prop} (h:OwnW B I) (hB:B≤B'):OwnW B' I:=fun s X Y row hs hg hr=>h s X Y row hs hg fun r e=>⟨Nat.le_trans hB (hr r e).1,(hr r e).2⟩
theorem OwnW.and {β:Type} {B:Nat} {I J:β→World→Prop} (h:OwnW B I) (g:OwnW B J):OwnW B (fun s W=>I s W∧J s W):=fun s X Y row hs hg hr=>⟨h s X Y row hs.1 hg hr,g s X Y row hs.2 hg hr⟩
end Go.Proofs.YtmcmbicapdcfmaaGreat
namespace Go.Proofs.YtmcmbicapdcfmaaGreat
open Go.RowKit
theorem mem_take_succ {l:List Int} {k:Nat} {x n:Int} (h:l[k]?=some x):n∈l.take (k+1)↔n∈l.take k∨n=x:=by
 rw [take_snoc_some h,List.mem_append,List.mem_singleton]
theorem r_Has2 (l:List Int) (v:Int) (A:Option Addr) (n c:Nat) (w:World) (hn:n≤9223372036854775807) (hd:Is w w.heap.size A n l) :
 Calls Tryz.prog 18 #[.slice A n c,.int .i64 v] w fun e w'=>e=.returned (.bool (decide (v∈l)))∧Below w.heap.size w w':=by
 have hlen:=hd.len
 have HD:=hd_ hd
 have HL:=hd_ hlen
 clear hd hlen
 go_enter Tryz.func18,Tryz.ntmps18
 go_wp2
 go_loopw [5] (fun i wr=>∃ k:Nat,k≤n∧i=.int .i64 k∧v ∉ l.take k∧Below w.heap.size w wr) (fun i _=>n - (intOf i).toNat)
 case atStart=>exact ⟨0,by omega,rfl,by simp,Below.refl _ _⟩
 case round =>
  obtain ⟨k,hk,rfl,hno,hB⟩:=hrel
  have HNo:=hd_ hno
  clear hno
  by_cases hlt:k<n
  ·obtain ⟨b,o,x,rfl,hb,hx,hc0⟩:=(Is.ext HD.out hB lr_).at_ hlt
   have HX:=hd_ hx
   clear hx
   by_cases he:x=v
   ·go_wp2
    go_ret
    exact ⟨ret_bool (by rw [he] at HX;simp [List.mem_of_getElem? HX.out]),hB⟩
   ·go_wp2
    go_roundw
    case rel=>exact ⟨k+1,by omega,by go_num,by rw [mem_take_succ HX.out];exact fun h=>h.elim HNo.out fun e=>he e.symm,hB⟩
    case measure=>exact ms_
  ·have hkn:Hid (k=n):=by show _=_;omega
   go_wp2
   go_ret
   refine ⟨ret_bool ?_,hB⟩
   have h:=HNo.out
   rw [List.take_of_length_le (by rw [HL.out,hkn.out];exact lr_)] at h
   simp [h]
end Go.Proofs.YtmcmbicapdcfmaaGreat
