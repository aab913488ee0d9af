/- Layer 2 of the texts that LoanWheres takes: Uaeq. -/
import Derived.Test.YtoiompoapikkbaaGreatUadq
set_option linter.unusedVariables false
set_option linter.unusedSimpArgs false
/- Families of rows of the call's own, one for each name: what keeps them, and an append to one of them. -/
namespace Go.Proofs.YtoiompoapikkbaaGreat
open Go.RowKit Go.Maps
abbrev Nm:=Int × Int
def upd {α:Type} (f:Nm→α) (n:Nm) (v:α):Nm→α:=fun m=>if m=n then v else f m
theorem upd_same {α:Type} (f:Nm→α) (n:Nm) (v:α):upd f n v n=v:=by simp [upd]
theorem upd_other {α:Type} (f:Nm→α) {n m:Nm} (h:m≠n) (v:α):upd f n v m=f m:=by simp [upd,h]
abbrev TL:=List (Deed × Nat)
structure Fam (w:World) (base:Nat) (e:TypeId) (size:Nat) (g:Nm→Value) (c:TL→List Value) (S:Nm→TL):Prop where
 own:∀ n,w.ownsRow base e size (g n) (S n).length (c (S n))
 dis:∀ n m,n≠m→∀ b,(g n).ownBlock=some b→(g m).ownBlock≠some b
theorem own_block {w:World} {base size n:Nat} {e:TypeId} {v:Value} {xs:List Value} (h:w.ownsRow base e size v n xs) {b:Nat} (hb:v.ownBlock=some b):∃ cur,w.heap[b]?=some (.cells cur e (0,0)):=by
 rcases h.2 with ⟨rfl,_⟩ | ⟨g,cap,cur,rfl,_,hh,_⟩
 ·simp [Value.ownBlock] at hb
 ·simp [Value.ownBlock] at hb
  subst hb
  exact ⟨cur,hh⟩
theorem own_keep {w w':World} {base size n:Nat} {e:TypeId} {v:Value} {xs:List Value} (h:w.ownsRow base e size v n xs) (hk:∀ b,v.ownBlock=some b→w'.heap[b]?=w.heap[b]?):w'.ownsRow base e size v n xs:=by
 refine ⟨h.1,?_⟩
 rcases h.2 with h2 | ⟨g,cap,cur,rfl,hb,hh,r⟩
 ·exact .inl h2
 ·exact .inr ⟨g,cap,cur,rfl,hb,(hk g rfl).trans hh,r⟩
theorem block_lt {w:World} {b:Nat} {o:Obj} (h:w.heap[b]?=some o):b<w.heap.size:=by
 rcases Nat.lt_or_ge b w.heap.size with hlt | hge
 ·exact hlt
 ·rw [Array.getElem?_eq_none hge] at h;cases h
section
variable {w w':World} {base size:Nat} {e:TypeId} {g:Nm→Value} {c:TL→List Value} {S:Nm→TL}
theorem Fam.start (w:World) (base:Nat) (e:TypeId) (size:Nat) (c:TL→List Value) (hc:c []=[]):Fam w base e size (fun _=>.slice none 0 0) c (fun _=>[]) :=
 ⟨fun _=>by rw [hc];exact World.ownsRow_nil _ _ _ _,fun _ _ _ b hb=>by simp [Value.ownBlock] at hb⟩
theorem Fam.keep (h:Fam w base e size g c S) (hk:∀ n b,(g n).ownBlock=some b→w'.heap[b]?=w.heap[b]?):Fam w' base e size g c S :=
 ⟨fun n=>own_keep (h.own n) (hk n),h.dis⟩
theorem Fam.lt (h:Fam w base e size g c S) {n:Nm} {b:Nat} (hb:(g n).ownBlock=some b):b<w.heap.size:=by
 obtain ⟨cur,hh⟩:=own_block (h.own n) hb
 exact block_lt hh
theorem Fam.ext (h:Fam w base e size g c S) (hb:Below w.heap.size w w'):Fam w' base e size g c S:=h.keep fun _ b hg=>hb.block b (h.lt hg)
theorem Fam.alloc (h:Fam w base e size g c S) (o:Obj):Fam (w.alloc o) base e size g c S:=h.keep fun _ b hg=>Below.heap_alloc _ _ _ (h.lt hg)
theorem Fam.drew (h:Fam w base e size g c S):Fam w.drew base e size g c S:=h.keep fun _ _ _=>rfl
theorem Fam.set (h:Fam w base e size g c S) {p:Addr} {t:TypeId} {cs:Array Value} {fr:Nat × Nat} (hp:w.heap[p.block]?=some (.cells cs t fr)) (hne:t≠e) (u:Value):Fam (w.setCell p u) base e size g c S :=
 h.keep fun n b hg=>Below.heap_setCell _ _ _ _ fun eb=>by
  obtain ⟨cur,hh⟩:=own_block (h.own n) hg
  rw [eb,hp] at hh
  injection hh with hh
  injection hh with _ ht
  exact hne ht
theorem Fam.grown (h:Fam w base e size g c S) {base' size' n':Nat} {e':TypeId} {v:Value} {xs:List Value} (hv:w.ownsRow base' e' size' v n' xs) (hne:e'≠e) (hg:w.grownBy w' v.ownBlock):Fam w' base e size g c S :=
 h.keep fun n b hgb=>hg.block b (h.lt hgb) fun eb=>by
  obtain ⟨cur,hh⟩:=own_block (h.own n) hgb
  obtain ⟨cur',hh'⟩:=own_block hv eb.symm
  rw [hh] at hh'
  injection hh' with hh'
  injection hh' with _ ht
  exact hne ht.symm
theorem Fam.push (h:Fam w base e size g c S) {n:Nm} {x:Deed × Nat} {news:List Value} {b cap:Nat} (hc:c (S n ++ [x])=c (S n) ++ news)
 (hown:w'.ownsRow base e size (.slice (some ⟨b,0,none⟩) ((S n).length+1) cap) ((S n).length+1) (c (S n) ++ news)) (hg:w.grownBy w' (g n).ownBlock) (hb:(g n).ownBlock=some b∨w.heap.size≤b) :
 Fam w' base e size (upd g n (.slice (some ⟨b,0,none⟩) ((S n).length+1) cap)) c (upd S n (S n ++ [x])):=by
 refine ⟨fun m=>?_,fun m k hmk b' hb'=>?_⟩
 ·by_cases hm:m=n
  ·subst hm
   rw [upd_same,upd_same,List.length_append,hc]
   exact hown
  ·rw [upd_other _ hm,upd_other _ hm]
   exact own_keep (h.own m) fun b' hb'=>hg.block b' (h.lt hb') fun eb=>h.dis m n hm b' hb' eb.symm
 ·by_cases hm:m=n
  ·subst hm
   have hk:k≠m:=fun e=>hmk e.symm
   rw [upd_same] at hb'
   rw [upd_other _ hk]
   have hbb:b=b':=by simpa [Value.ownBlock] using hb'
   subst hbb
   rcases hb with hb | hb
   ·exact h.dis m k hmk b hb
   ·intro e2
    have:=h.lt e2
    omega
  ·rw [upd_other _ hm] at hb'
   by_cases hk:k=n
   ·subst hk
    rw [upd_same]
    intro e2
    have hbb:b=b':=by simpa [Value.ownBlock] using e2
    subst hbb
    rcases hb with hb | hb
    ·exact h.dis m k hmk b hb' hb
    ·have:=h.lt hb'
     omega
   ·rw [upd_other _ hk]
    exact h.dis m k hmk b' hb'
end
def aftL (ds:List Deed):List St:=(List.range ds.length).map fun i=>runSt (ds.take (i+1))
end Go.Proofs.YtoiompoapikkbaaGreat
/- threads. -/
namespace Go.Proofs.YtoiompoapikkbaaGreat
open Go.RowKit Go.Maps
abbrev zT:Value:=.agg #[.slice none 0 0,.slice none 0 0,.slice none 0 0]
theorem wf_small {x:Int} (h0:0≤x) (h1:x≤1000000):(Lit.int .i64 x).wf=true:=WalkArith.wf_i64 (by omega)
def S6 (b7 b6 be:Nat) (v0 v1 v2 k p:Value) (o:Obj) (V:World):Prop :=
 V.cell? ⟨b7,0,none⟩=some v0∧V.cell? ⟨b7,1,none⟩=some v1∧V.cell? ⟨b7,2,none⟩=some v2∧V.cell? ⟨b6,2,none⟩=some k∧V.cell? ⟨b6,4,none⟩=some p∧V.heap[be]?=some o
theorem S6.ext {V V':World} {b7 b6 be:Nat} {v0 v1 v2 k p:Value} {o:Obj} (hb:Below V.heap.size V V') (h:S6 b7 b6 be v0 v1 v2 k p o V):S6 b7 b6 be v0 v1 v2 k p o V':=by
 obtain ⟨h0,h1,h2,h3,h4,ho⟩:=h
 have g:∀ (a:Addr) (v:Value),V.cell? a=some v→V'.cell? a=some v:=fun a v h=>(hb.cell (World.block_lt_of_cell? V a h)).trans h
 exact ⟨g _ _ h0,g _ _ h1,g _ _ h2,g _ _ h3,g _ _ h4,(hb.block be (block_lt ho)).trans ho⟩
theorem S6.grown {V V':World} {b7 b6 be:Nat} {v0 v1 v2 k p:Value} {o:Obj} {row:Option Nat} (hg:V.grownBy V' row) (n7:some b7≠row) (n6:some b6≠row) (ne:some be≠row) (h:S6 b7 b6 be v0 v1 v2 k p o V):S6 b7 b6 be v0 v1 v2 k p o V':=by
 obtain ⟨h0,h1,h2,h3,h4,ho⟩:=h
 have g:∀ (a:Addr) (v:Value),some a.block≠row→V.cell? a=some v→V'.cell? a=some v:=fun a v hn h=>(hg.cell_far a (World.block_lt_of_cell? V a h) hn).trans h
 exact ⟨g _ _ n7 h0,g _ _ n7 h1,g _ _ n7 h2,g _ _ n6 h3,g _ _ n6 h4,(hg.block be (block_lt ho) ne).trans ho⟩
def S9 (b7 b6:Nat) (v0 v1 v2:Value) (d:Deed) (V:World):Prop :=
 V.cell? ⟨b7,0,none⟩=some v0∧V.cell? ⟨b7,1,none⟩=some v1∧V.cell? ⟨b7,2,none⟩=some v2∧World.cell? V ⟨b6,0,none⟩=some (.int .i64 d.par)∧World.cell? V ⟨b6,1,none⟩=some (.int .i64 d.no)∧World.cell? V ⟨b6,2,none⟩=some (.int .i64 d.kind)∧World.cell? V ⟨b6,3,none⟩=some (.int .i64 d.lock)∧World.cell? V ⟨b6,4,none⟩=some (.int .i64 d.person)∧World.cell? V ⟨b6,5,none⟩=some (.int .i64 d.lo)∧World.cell? V ⟨b6,6,none⟩=some (.int .i64 d.hi)∧World.cell? V ⟨b6,7,none⟩=some (.int .i64 d.known)∧World.cell? V ⟨b6,8,none⟩=some (.int .i64 d.til)
end Go.Proofs.YtoiompoapikkbaaGreat
