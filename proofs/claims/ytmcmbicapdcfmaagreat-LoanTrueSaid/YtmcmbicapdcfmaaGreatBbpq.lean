/- Layer 2 of the texts that LoanBack takes: Bbpq. -/
import Derived.Test.YtmcmbicapdcfmaaGreatBbnq
import Derived.Test.YtmcmbicapdcfmaaGreatLqp
import Derived.Test.YtmcmbicapdcfmaaGreatBboq
set_option linter.unusedVariables false
set_option linter.unusedSimpArgs false
set_option maxHeartbeats 16000000
namespace Go.Proofs.YtmcmbicapdcfmaaGreat
open Go.RowKit Go.Maps
structure Rsl where
 (aA:Option Addr) (an ac:Nat)
 (bA:Option Addr) (bn bc:Nat)
 (cA:Option Addr) (cn cc:Nat)
structure RawL where
 (a b c:List Int)
structure RawIn (w:World) (x:Rsl) (r:RawL):Prop where
 a:Rd w w.heap.size 5 x.aA x.an (intL r.a)
 b:Rd w w.heap.size 7 x.bA x.bn (intL r.b)
 c:Rd w w.heap.size 5 x.cA x.cn (intL r.c)
structure Rsl.fit (x:Rsl):Prop where
 a:x.an≤x.ac∧x.ac≤maxLen
 b:x.bn≤x.bc∧x.bc≤maxLen
 c:x.cn≤x.cc∧x.cc≤maxLen
def K2 (b1 b2:Nat) (c1 c2:Array Value) (V:World):Prop:=(∀ o,V.cell? ⟨b1,o,none⟩=c1[o]?)∧(∀ o,V.cell? ⟨b2,o,none⟩=c2[o]?)∧b1<V.heap.size∧b2<V.heap.size
theorem K2.ext {b1 b2:Nat} {c1 c2:Array Value} {V V':World} (hb:Below V.heap.size V V') (h:K2 b1 b2 c1 c2 V):K2 b1 b2 c1 c2 V':=by
 obtain ⟨h1,h2,z1,z2⟩:=h
 have hs:=hb.size
 exact ⟨fun o=>(hb.cell (p:=⟨b1,o,none⟩) z1).trans (h1 o),fun o=>(hb.cell (p:=⟨b2,o,none⟩) z2).trans (h2 o),by omega,by omega⟩
def K3 (b1 b2 b3:Nat) (c1 c2 c3:Array Value) (V:World):Prop:=(∀ o,V.cell? ⟨b1,o,none⟩=c1[o]?)∧(∀ o,V.cell? ⟨b2,o,none⟩=c2[o]?)∧(∀ o,V.cell? ⟨b3,o,none⟩=c3[o]?)∧b1<V.heap.size∧b2<V.heap.size∧b3<V.heap.size
theorem K3.ext {b1 b2 b3:Nat} {c1 c2 c3:Array Value} {V V':World} (hb:Below V.heap.size V V') (h:K3 b1 b2 b3 c1 c2 c3 V):K3 b1 b2 b3 c1 c2 c3 V':=by
 obtain ⟨h1,h2,h3,z1,z2,z3⟩:=h
 have hs:=hb.size
 exact ⟨fun o=>(hb.cell (p:=⟨b1,o,none⟩) z1).trans (h1 o),fun o=>(hb.cell (p:=⟨b2,o,none⟩) z2).trans (h2 o),fun o=>(hb.cell (p:=⟨b3,o,none⟩) z3).trans (h3 o),by omega,by omega,by omega⟩
theorem K3.grownR {b1 b2 b3:Nat} {c1 c2 c3:Array Value} {V V':World} {row:Option Nat} (hg:V.grownBy V' row) (h:K3 b1 b2 b3 c1 c2 c3 V) (n1:some b1≠row) (n2:some b2≠row) (n3:some b3≠row):K3 b1 b2 b3 c1 c2 c3 V':=by
 obtain ⟨h1,h2,h3,z1,z2,z3⟩:=h
 have hs:=hg.size
 have e1:=hg.block b1 z1 n1
 have e2:=hg.block b2 z2 n2
 have e3:=hg.block b3 z3 n3
 exact ⟨fun o=>by rw [← h1 o];simp [World.cell?,e1],fun o=>by rw [← h2 o];simp [World.cell?,e2],fun o=>by rw [← h3 o];simp [World.cell?,e3],by omega,by omega,by omega⟩
def KE (b1 b2:Nat) (c1 c2:Array Value) (b o:Nat) (ec:List Value) (V:World):Prop:=K2 b1 b2 c1 c2 V∧b<V.heap.size∧∀ m u,ec[m]?=some u→V.cell? ⟨b,o+m,none⟩=some u
theorem KE.ext {b1 b2 b o:Nat} {c1 c2:Array Value} {ec:List Value} {V V':World} (hb:Below V.heap.size V V') (h:KE b1 b2 c1 c2 b o ec V):KE b1 b2 c1 c2 b o ec V':=by
 obtain ⟨h0,h1,h2⟩:=h
 have hs:=hb.size
 exact ⟨K2.ext hb h0,by omega,fun m u hu=>(hb.cell (p:=⟨b,o+m,none⟩) h1).trans (h2 m u hu)⟩
theorem BoxA.set8 {W:World} {B:Nat} {t:TypeId} {u0 u1 u2 u3 u4 u5 u6 u7:Value} (h:BoxA W B t #[u0,u1,u2,u3,u4,u5,u6,u7]) (v0 v1 v2 v3 v4 v5 v6 v7:Value) :
 BoxA ((((((((W.setCell ⟨B,0,none⟩ v0).setCell ⟨B,1,none⟩ v1).setCell ⟨B,2,none⟩ v2).setCell ⟨B,3,none⟩ v3).setCell ⟨B,4,none⟩ v4).setCell ⟨B,5,none⟩ v5).setCell ⟨B,6,none⟩ v6).setCell ⟨B,7,none⟩ v7) B t #[v0,v1,v2,v3,v4,v5,v6,v7]:=by
 have:=(((((((h.set 0 v0).set 1 v1).set 2 v2).set 3 v3).set 4 v4).set 5 v5).set 6 v6).set 7 v7
 simpa using this
theorem raw_at {w:World} {A:Option Addr} {n s:Nat} {L:List Int} (h:Rd w w.heap.size s A n (intL L)) {k:Nat} (hk:k<n):∃ b o,A=some ⟨b,o,none⟩∧b<w.heap.size∧∀ j,j<s→w.cell? ⟨b,o+k*s+j,none⟩=some (.int .i64 (L.getD (k*s+j) 0)):=by
 obtain ⟨b,o,e,hb,hc⟩:=h.2 (by omega)
 refine ⟨b,o,e,hb,fun j hj=>?_⟩
 have hl:L.length=n*s:=by have:=h.1;simpa [intL] using this
 have hlt:k*s+j<L.length:=by
  rw [hl]
  calc k*s+j<k*s+s:=by omega
   _=(k+1)*s:=by rw [Nat.succ_mul]
   _≤n*s:=Nat.mul_le_mul_right s hk
 have h1:=hc (k*s+j) (.int .i64 (L.getD (k*s+j) 0)) (by simp [intL,List.getD_eq_getElem?_getD,List.getElem?_eq_getElem hlt])
 rwa [← Nat.add_assoc] at h1
theorem elemB {W:World} {B s n:Nat} {A:Option Addr} {α:Type} {f:α→List Value} {xs:List α} (h:Rd W B s A n (xs.flatMap f)) (hg:∀ (xs:List α) (k j:Nat) (x:α),xs[k]?=some x→j<s→(xs.flatMap f)[k*s+j]?=(f x)[j]?) (hl:∀ x,(f x).length=s) {k:Nat} {z:α} (hz:xs[k]?=some z) (hk:k<n) :
 ∃ b o,A=some ⟨b,o,none⟩∧b<B∧∀ m u,(f z)[m]?=some u→W.cell? ⟨b,o+k*s+m,none⟩=some u:=by
 obtain ⟨b,o,e,hb,hc⟩:=h.2 (by omega)
 refine ⟨b,o,e,hb,fun m u hu=>?_⟩
 have hm:m<s:=by rw [← hl z];exact (List.getElem?_eq_some_iff.1 hu).1
 have h1:=hc (k*s+m) u (by rw [hg xs k m z hz hm];exact hu)
 rwa [← Nat.add_assoc] at h1
theorem own_far {W:World} {base e s n B:Nat} {v:Value} {xs:List Value} (h:W.ownsRow base e s v n xs) (hB:some B≠v.ownBlock) (o:Nat) (u:Value):(W.setCell ⟨B,o,none⟩ u).ownsRow base e s v n xs:=h.kept (grown_setCell W B o u) (.inr fun e=>hB e.symm)
theorem BoxA.set86 {W:World} {B:Nat} {t:TypeId} {u0 u1 u2 u3 u4 u5 u6 u7:Value} (h:BoxA W B t #[u0,u1,u2,u3,u4,u5,u6,u7]) (v:Value):BoxA (W.drew.setCell ⟨B,6,none⟩ v) B t #[u0,u1,u2,u3,u4,u5,v,u7]:=by
 have h1:BoxA W.drew B t #[u0,u1,u2,u3,u4,u5,u6,u7]:=h
 have:=h1.set 6 v
 simpa using this
theorem BoxA.set75 {W:World} {B:Nat} {t:TypeId} {u0 u1 u2 u3 u4 u5 u6:Value} (h:BoxA W B t #[u0,u1,u2,u3,u4,u5,u6]) (v:Value):BoxA (W.drew.setCell ⟨B,5,none⟩ v) B t #[u0,u1,u2,u3,u4,v,u6]:=by
 have h1:BoxA W.drew B t #[u0,u1,u2,u3,u4,u5,u6]:=h
 have:=h1.set 5 v
 simpa using this
theorem BoxA.set71 {W:World} {B:Nat} {t:TypeId} {u0 u1 u2 u3 u4 u5 u6:Value} (h:BoxA W B t #[u0,u1,u2,u3,u4,u5,u6]) (v:Value):BoxA (W.setCell ⟨B,1,none⟩ v) B t #[u0,v,u2,u3,u4,u5,u6]:=by
 have:=h.set 1 v
 simpa using this
theorem bel_drew {W W':World} {lo B:Nat} (h:Below lo W W') (hB:lo≤B) (o:Nat) (u:Value):Below lo W (W'.drew.setCell ⟨B,o,none⟩ u):=h.drew.setCell hB u
theorem own_drew {W:World} {base e s n B:Nat} {v:Value} {xs:List Value} (h:W.ownsRow base e s v n xs) (hB:some B≠v.ownBlock) (o:Nat) (u:Value):(W.drew.setCell ⟨B,o,none⟩ u).ownsRow base e s v n xs:=by
 have h1:W.drew.ownsRow base e s v n xs:=h
 exact own_far h1 hB o u
theorem new_at {W:World} {cs:Array Value} {T:TypeId} {xs:List Value} (h:cs.toList=xs):∀ (j:Nat) u,xs[j]?=some u→(W.alloc (.cells cs T)).cell? ((⟨W.heap.size,0,none⟩:Addr).add j)=some u:=by
 intro j u hj
 have h1:=(BoxA.new W T cs).cell j
 rw [← h] at hj
 have e:(⟨W.heap.size,0,none⟩:Addr).add j=⟨W.heap.size,j,none⟩:=by
  unfold Addr.add
  split
  ·rename_i h0;subst h0;rfl
  ·simp
 rw [e,h1,← hj]
 simp
theorem mod_nat (a:Int) {m:Int} (hm:0<m):∃ k:Nat,a % m=(k:Int)∧(k:Int)<m:=by
 have h0:=Int.emod_nonneg a (Int.ne_of_gt hm)
 have h2:=Int.emod_lt_of_pos a hm
 exact ⟨(a % m).toNat,by omega,by omega⟩
theorem pp_at {m:Nat} (h:(m:Int)<3):∃ p,mPp[m]?=some p∧p∈mPp∧1≤p.lv∧p.lv≤4∧1≤p.id∧p.id≤5:=by
 have h3:m=0∨m=1∨m=2:=by omega
 rcases h3 with rfl | rfl | rfl <;> exact ⟨_,rfl,by simp [mPp],by decide,by decide,by decide,by decide⟩
theorem pp_cells {W:World} {b:Nat} {T:TypeId} (h:BoxA W b T #[.int .i64 1,.int .i64 4,.int .i64 2,.int .i64 3,.int .i64 5,.int .i64 2]) {m:Nat} {p:Ppr} (hp:mPp[m]?=some p):∀ j u,(ppC p)[j]?=some u→W.cell? ⟨b,m*2+j,none⟩=some u:=by
 intro j u hu
 have h1:=flat_get ppC 2 (fun _=>rfl) mPp m j p hp (by have:=(List.getElem?_eq_some_iff.1 hu).1;simpa using this)
 rw [h.cell,← hu,← h1]
 have e:mPp.flatMap ppC=[.int .i64 1,.int .i64 4,.int .i64 2,.int .i64 3,.int .i64 5,.int .i64 2]:=rfl
 rw [e]
 simp
theorem pp_read {W:World} {b B:Nat} {T:TypeId} (h:BoxA W b T #[.int .i64 1,.int .i64 4,.int .i64 2,.int .i64 3,.int .i64 5,.int .i64 2]) (hB:b<B):Pps W B (some ⟨b,0,none⟩) 3 mPp :=
 ⟨rfl,fun _=>⟨b,0,rfl,hB,fun k p hp=>by
   have h0:=pp_cells h hp 0 _ rfl
   have h1:=pp_cells h hp 1 _ rfl
   simp only [Nat.add_zero,Nat.zero_add] at h0 h1 ⊢
   exact ⟨h0,h1⟩⟩⟩
theorem mk0:MkOk 0 ⟨mPp,[],[],[]⟩ []:=⟨rfl,by decide,by decide,by decide,by decide,fun k r h=>by simp at h,fun k r h=>by simp at h,fun k r h=>by simp at h,rfl⟩
theorem bel_far {W W':World} {lo B:Nat} (h:Below lo W W') (hB:lo≤B) (o:Nat) (u:Value):Below lo W (W'.setCell ⟨B,o,none⟩ u):=h.setCell hB u
def RetMade (w:World) (e:Ending) (w':World):Prop:=∃ (y:Lsl) (l:Led) (days:List Int) (D:Option Addr) (dc:Nat) (d:Int),
 e=.returned (.tuple #[.agg #[.slice y.pA y.pn y.pc,.slice y.rA y.rn y.rc,.slice y.tA y.tn y.tc,.slice y.sA y.sn y.sc],.slice D days.length dc])∧Below w.heap.size w w'∧y.fit∧LedIn w' w'.heap.size y l∧MkOk d l days∧Is w' w'.heap.size D days.length days∧days.length≤dc∧dc≤maxLen
end Go.Proofs.YtmcmbicapdcfmaaGreat
namespace Go.Proofs.YtmcmbicapdcfmaaGreat
open Go.ChangeShapes Go.WideShapes Go.ChangeAt Go.RowKit Go.Deep Go.Joins Go.Maps
theorem lenx7 {α:Type}:∀ {l:List α},l.length=7→∃ a0 a1 a2 a3 a4 a5 a6,l=[a0,a1,a2,a3,a4,a5,a6]
 | [a0,a1,a2,a3,a4,a5,a6],_=>⟨a0,a1,a2,a3,a4,a5,a6,rfl⟩
section
variable {H:Type} {enc:TypeId × Value→H} {w:World} {base:Nat} {spare:Nat→Bool} {held:Bool} {fuel:Nat} {cs:List Value} {x:DataW H × List MemPlace}
theorem slice_cell {t e:TypeId} (ht:Tryz.prog.underlying t=some (.slice e)) (h:DataW.trod enc Tryz.prog w base spare held fuel t cs=some x):∃ A n c,cs=(Value.slice A n c).cells.toList:=by
 rcases open_slice ht h with ⟨rfl,_⟩ | ⟨a,len,cap,m,nn,D,Pl,rfl,_⟩
 ·exact ⟨none,0,0,rfl⟩
 ·exact ⟨some a,len,cap,rfl⟩
end
section
variable {H:Type} {enc:TypeId × Value→H} {w:World} {base:Nat} {spare:Nat→Bool} {held:Bool} {r:Reach} {b0:Nat} {v:Value} {d:DataW H} {p:List MemPlace}
end
theorem c5_arr:Tryz.prog.cellsOf 68=5:=by kernel_rfl
theorem c7_arr:Tryz.prog.cellsOf 129=7:=by kernel_rfl
theorem c1_r5:Tryz.prog.cellsOf 22=1:=by kernel_rfl
theorem c1_r7:Tryz.prog.cellsOf 23=1:=by kernel_rfl
theorem c3_raw:Tryz.prog.cellsOf 25=3:=by kernel_rfl
theorem lenx3 {α:Type}:∀ {l:List α},l.length=3→∃ a b c,l=[a,b,c]
 | [a,b,c],_=>⟨a,b,c,rfl⟩
theorem lenx5 {α:Type}:∀ {l:List α},l.length=5→∃ a0 a1 a2 a3 a4,l=[a0,a1,a2,a3,a4]
 | [a0,a1,a2,a3,a4],_=>⟨a0,a1,a2,a3,a4,rfl⟩
section
variable {H:Type} {enc:TypeId × Value→H} {w:World} {base:Nat} {spare:Nat→Bool} {held:Bool} {r:Reach} {b0:Nat} {v:Value} {d:DataW H} {p:List MemPlace} {fuel:Nat} {cs:List Value} {x:DataW H × List MemPlace}
theorem arr5_of (h:DataW.trod enc Tryz.prog w base spare held fuel 68 cs=some x):∃ l:List Int,l.length=5∧cs=intL l:=by
 obtain ⟨xs,n,_,_,hl,hx,hf⟩:=DataW.trod_array Tryz.underlying68 h
 rw [c5_arr] at hl
 obtain ⟨y0,e0⟩:=some_at hx (i:=0) (by decide)
 obtain ⟨y1,e1⟩:=some_at hx (i:=1) (by decide)
 obtain ⟨y2,e2⟩:=some_at hx (i:=2) (by decide)
 obtain ⟨y3,e3⟩:=some_at hx (i:=3) (by decide)
 obtain ⟨y4,e4⟩:=some_at hx (i:=4) (by decide)
 obtain ⟨c0,c1,c2,c3,c4,rfl⟩:=lenx5 hl
 obtain ⟨a0,h0⟩:=int_of ((hf 0 (by decide)).trans e0)
 obtain ⟨a1,h1⟩:=int_of ((hf 1 (by decide)).trans e1)
 obtain ⟨a2,h2⟩:=int_of ((hf 2 (by decide)).trans e2)
 obtain ⟨a3,h3⟩:=int_of ((hf 3 (by decide)).trans e3)
 obtain ⟨a4,h4⟩:=int_of ((hf 4 (by decide)).trans e4)
 simp [c1_int] at h0 h1 h2 h3 h4
 exact ⟨[a0,a1,a2,a3,a4],rfl,by simp [intL,h0,h1,h2,h3,h4]⟩
theorem arr7_of (h:DataW.trod enc Tryz.prog w base spare held fuel 129 cs=some x):∃ l:List Int,l.length=7∧cs=intL l:=by
 obtain ⟨xs,n,_,_,hl,hx,hf⟩:=DataW.trod_array Tryz.underlying129 h
 rw [c7_arr] at hl
 obtain ⟨y0,e0⟩:=some_at hx (i:=0) (by decide)
 obtain ⟨y1,e1⟩:=some_at hx (i:=1) (by decide)
 obtain ⟨y2,e2⟩:=some_at hx (i:=2) (by decide)
 obtain ⟨y3,e3⟩:=some_at hx (i:=3) (by decide)
 obtain ⟨y4,e4⟩:=some_at hx (i:=4) (by decide)
 obtain ⟨y5,e5⟩:=some_at hx (i:=5) (by decide)
 obtain ⟨y6,e6⟩:=some_at hx (i:=6) (by decide)
 obtain ⟨c0,c1,c2,c3,c4,c5,c6,rfl⟩:=lenx7 hl
 obtain ⟨a0,h0⟩:=int_of ((hf 0 (by decide)).trans e0)
 obtain ⟨a1,h1⟩:=int_of ((hf 1 (by decide)).trans e1)
 obtain ⟨a2,h2⟩:=int_of ((hf 2 (by decide)).trans e2)
 obtain ⟨a3,h3⟩:=int_of ((hf 3 (by decide)).trans e3)
 obtain ⟨a4,h4⟩:=int_of ((hf 4 (by decide)).trans e4)
 obtain ⟨a5,h5⟩:=int_of ((hf 5 (by decide)).trans e5)
 obtain ⟨a6,h6⟩:=int_of ((hf 6 (by decide)).trans e6)
 simp [c1_int] at h0 h1 h2 h3 h4 h5 h6
 exact ⟨[a0,a1,a2,a3,a4,a5,a6],rfl,by simp [intL,h0,h1,h2,h3,h4,h5,h6]⟩
theorem flat_int {s:Nat} (l:List { l:List Int // l.length=s }):l.flatMap (fun v=>intL v.1)=intL (l.flatMap Subtype.val):=by
 induction l with
 | nil=>rfl
 | cons a l ih=>rw [List.flatMap_cons,ih,List.flatMap_cons];simp [intL]
theorem r5_of {A:Option Addr} {n c:Nat} (h:DataW.trod enc Tryz.prog w base spare held fuel 22 (Value.slice A n c).cells.toList=some x):n≤c∧c≤maxLen∧∃ l:List Int,Rd w w.heap.size 5 A n (intL l):=by
 obtain ⟨h1,h2,l,_,h3⟩:=row_of (α:={ l:List Int // l.length=5 }) (fun v=>intL v.1) (fun v=>by simp [intL,v.2]) (by decide) Tryz.underlying22 c5_arr (fun _ _ _ h=>by obtain ⟨v,e,hv⟩:=arr5_of h;exact ⟨⟨v,e⟩,hv⟩) h
 rw [flat_int] at h3
 exact ⟨h1,h2,_,h3⟩
theorem r7_of {A:Option Addr} {n c:Nat} (h:DataW.trod enc Tryz.prog w base spare held fuel 23 (Value.slice A n c).cells.toList=some x):n≤c∧c≤maxLen∧∃ l:List Int,Rd w w.heap.size 7 A n (intL l):=by
 obtain ⟨h1,h2,l,_,h3⟩:=row_of (α:={ l:List Int // l.length=7 }) (fun v=>intL v.1) (fun v=>by simp [intL,v.2]) (by decide) Tryz.underlying23 c7_arr (fun _ _ _ h=>by obtain ⟨v,e,hv⟩:=arr7_of h;exact ⟨⟨v,e⟩,hv⟩) h
 rw [flat_int] at h3
 exact ⟨h1,h2,_,h3⟩
set_option maxRecDepth 100000 in
theorem raw_of (hv:Value.okWide Tryz.prog w r b0 25 v) (h:DataW.Trod enc Tryz.prog w base spare held 25 v d p):∃ (y:Rsl) (l:RawL),v=.agg #[.slice y.aA y.an y.ac,.slice y.bA y.bn y.bc,.slice y.cA y.cn y.cc]∧y.fit∧RawIn w y l:=by
 obtain ⟨cs,rfl,_⟩:=okWide_struct Tryz.underlying25 hv
 obtain ⟨fuel,hf0⟩:=h
 simp only [Value.cells] at hf0
 obtain ⟨xs,n,_,_,hl,hx,hf⟩:=DataW.trod_struct Tryz.underlying25 hf0
 rw [c3_raw] at hl
 obtain ⟨y0,e0⟩:=some_at hx (i:=0) (by decide)
 obtain ⟨y1,e1⟩:=some_at hx (i:=1) (by decide)
 obtain ⟨y2,e2⟩:=some_at hx (i:=2) (by decide)
 obtain ⟨c0,c1,c2,hcs⟩:=lenx3 hl
 rw [hcs] at hf
 have t0:=(hf 0 _ rfl).trans e0
 have t1:=(hf 1 _ rfl).trans e1
 have t2:=(hf 2 _ rfl).trans e2
 obtain ⟨A0,n0,q0,h0⟩:=slice_cell Tryz.underlying22 t0
 obtain ⟨A1,n1,q1,h1⟩:=slice_cell Tryz.underlying23 t1
 obtain ⟨A2,n2,q2,h2⟩:=slice_cell Tryz.underlying22 t2
 rw [h0] at t0
 rw [h1] at t1
 rw [h2] at t2
 obtain ⟨f0,g0,l0,k0⟩:=r5_of t0
 obtain ⟨f1,g1,l1,k1⟩:=r7_of t1
 obtain ⟨f2,g2,l2,k2⟩:=r5_of t2
 simp [c1_r5,c1_r7,Value.cells] at h0 h1 h2
 refine ⟨⟨A0,n0,q0,A1,n1,q1,A2,n2,q2⟩,⟨l0,l1,l2⟩,?_,⟨⟨f0,g0⟩,⟨f1,g1⟩,⟨f2,g2⟩⟩,⟨k0,k1,k2⟩⟩
 congr 1
 apply Array.toList_inj.1
 rw [hcs]
 simp [h0,h1,h2]
end
end Go.Proofs.YtmcmbicapdcfmaaGreat
namespace Go.Proofs.YtmcmbicapdcfmaaGreat
open Go.RowKit Go.Maps
theorem mod_mid {a m:Int} (hm:0<m):a.tmod m+m=a % m+m∨a.tmod m+m=a % m:=by
 rcases Int.lt_or_le a 0 with h | h
 ·have e1:=Int.tmod_eq_emod (a:=a) (b:=m)
  by_cases hd:m ∣ a
  ·left;rw [e1];simp [hd]
  ·right;rw [e1];simp [hd,Int.not_le.2 h];omega
 ·left;rw [Int.tmod_eq_emod_of_nonneg h]
theorem mod_val {a m:Int} (hm:0<m) (hm2:m≤1000000):(wrap64 (a.tmod m+m)).tmod m=a % m:=by
 have h0:=Int.emod_nonneg a (Int.ne_of_gt hm)
 have h2:=Int.emod_lt_of_pos a hm
 have hw:wrap64 (a.tmod m+m)=a.tmod m+m:=IntWalk.wrap64_in _ (by rcases mod_mid (a:=a) hm with h1 | h1 <;> rw [h1] <;> constructor <;> omega)
 rw [hw]
 rcases mod_mid (a:=a) hm with h1 | h1
 ·rw [h1,Int.tmod_eq_emod_of_nonneg (by omega),Int.add_emod_right,Int.emod_emod]
 ·rw [h1,Int.tmod_eq_emod_of_nonneg h0,Int.emod_emod]
theorem r_Mod2 (a m:Int) (w:World) (hm:0<m) (hm2:m≤1000000) :
 Calls Tryz.prog 11 #[.int .i64 a,.int .i64 m] w fun e w'=>e=.returned (.int .i64 (a % m))∧w=w':=by
 have hz:¬ m=0:=by omega
 go_enter Tryz.func11,Tryz.ntmps11
 go_wp2
 go_ret
 exact ⟨ret_int (mod_val hm hm2),rfl⟩
theorem r_Mod_v (a m v:Int) (w:World) (hm:0<m) (hm2:m≤1000000) (h:a % m=v) :
 Calls Tryz.prog 11 #[.int .i64 a,.int .i64 m] w fun e w'=>e=.returned (.int .i64 v)∧w=w':=h ▸ r_Mod2 a m w hm hm2
def RetBits (m:Int) (w:World) (e:Ending) (w':World):Prop:=∃ A n c xs,e=.returned (.slice A n c)∧Below w.heap.size w w'∧w'.ownsRow w.heap.size 3 1 (.slice A n c) n (intL xs)∧n≤c∧c≤maxLen∧BitsOk m xs
theorem up_le {m:Int}:∀ {xs:List Int},xs.Pairwise (·<·)→(∀ x∈xs,1≤x∧x<m)→(xs.length:Int)≤m - 1∨xs=[]:=by
 intro xs hp h
 have g:∀ (i:Nat) (hi:i<xs.length),(i:Int)+1≤xs[i]:=by
  intro i
  induction i with
  | zero=>intro hi;have:=(h _ (List.getElem_mem hi)).1;omega
  | succ i ih =>
    intro hi
    have h4:=ih (by omega)
    have h5:=List.pairwise_iff_getElem.1 hp i (i+1) (by omega) hi (by omega)
    omega
 rcases Nat.eq_zero_or_pos xs.length with h0 | h0
 ·exact .inr (List.eq_nil_of_length_eq_zero h0)
 ·left
  have h4:=g (xs.length - 1) (by omega)
  have h5:=(h _ (List.getElem_mem (show xs.length - 1<xs.length by omega))).2
  omega
theorem bits_snoc {xs:List Int} {i:Int} (h:xs.Pairwise (·<·)) (h2:∀ x∈xs,1≤x∧x<i) (hi:1≤i):(xs ++ [i]).Pairwise (·<·)∧∀ x∈xs ++ [i],1≤x∧x<i+1:=by
 refine ⟨List.pairwise_append.2 ⟨h,by simp,fun a ha b hb=>?_⟩,fun x hx=>?_⟩
 ·rw [List.mem_singleton.1 hb];exact (h2 a ha).2
 ·rcases List.mem_append.1 hx with hx | hx
  ·have:=h2 x hx;omega
  ·rw [List.mem_singleton.1 hx];omega
set_option maxRecDepth 10000 in
theorem r_bits (n m:Int) (w:World) (hm:1≤m∧m≤4) :
 Calls Tryz.prog 77 #[.int .i64 n,.int .i64 m] w (RetBits m w):=by
 obtain ⟨i0,hi,hz0,hz1,hz2⟩:=info_parts infoI2
 obtain ⟨hm1,hm4⟩:=hm
 go_enter Tryz.func77,Tryz.ntmps77
 go_wp2
 go_loopw [5,6] (fun v i wr=>∃ (k:Nat) (xs:List Int),1≤k∧(k:Int)≤m+1∧i=.int .i64 (k:Int)∧wr.ownsRow w.heap.size 3 1 v xs.length (intL xs)∧Below w.heap.size w wr∧xs.length≤4∧xs.Pairwise (·<·)∧∀ x∈xs,1≤x∧x<(k:Int)) (fun _ i _=>(m+1).toNat - (intOf i).toNat)
 case atStart=>exact ⟨1,[],by omega,by omega,rfl,World.ownsRow_nil _ _ _ _,by exact bel_,by simp,List.Pairwise.nil,by simp⟩
 case round =>
  obtain ⟨k,xs,hk1,hk2,rfl,hown,hB,hl4,hup,hlo⟩:=hrel
  have hs0:=hB.size
  by_cases hlt:(k:Int)≤m
  ·have hk4:k=1∨k=2∨k=3∨k=4:=by omega
   have HO:=hd_ hown
   have HB:=hd_ hB
   have HU:=hd_ hup
   have HL:=hd_ hlo
   clear hown hB hup hlo
   rcases hk4 with rfl | rfl | rfl | rfl
   ·cases hbt:(bits BinOp.and IntKind.i64 n 2 != 0) with
    | true =>
      have hg:=HO.out
      go_wp2_with (at_builtin;refine wpList_append_own _ rfl (.tmp 17) (.tmp 19) 33 rfl (w.heap.size) 3 i0 _ 1 8 Tryz.underlying33 hi hz0 hz1 hz2 rfl (by decide) _ _ _ rfl (hg.alloc _) ⟨wr.heap.size,0,none⟩ 1 1 [.int .i64 1] rfl rfl ?c1 ?c2 ?c3 ?c4 ?c5 ?_;rotate_left 5;intro v' w2 hown2 hgrow2 _)
      case c1=>intro j u hj;match j,hj with | 0,hj=>simp at hj;subst hj;simp [Addr.add]
      case c2=>simp [Value.oneCell']
      case c3=>unfold maxLen;omega
      case c4=>omega
      case c5=>simp;omega
      go_roundw
      case rel =>
       have hsn:=bits_snoc (i:=1) HU.out HL.out (by omega)
       refine ⟨2,xs ++ [1],by omega,by omega,rfl,?_,OwnB.below (by have:=HB.out;exact bel_) HO.out (by simp;omega) hgrow2,?_,hsn.1,hsn.2⟩
       ·rw [List.length_append,List.length_singleton];simpa [intL] using hown2
       ·have hq:=HL.out;have hrl:=up_le (m:=1) HU.out hq;rcases hrl with hrl | rfl <;> simp <;> omega
      case measure=>exact ms_
    | false =>
      go_wp2_with fail
      go_roundw
      case rel=>exact ⟨2,xs,by omega,by omega,rfl,HO.out,by have:=HB.out;exact bel_,hl4,HU.out,fun x hx=>by have:=HL.out x hx;omega⟩
      case measure=>exact ms_
   ·cases hbt:(bits BinOp.and IntKind.i64 n 4 != 0) with
    | true =>
      have hg:=HO.out
      go_wp2_with (at_builtin;refine wpList_append_own _ rfl (.tmp 17) (.tmp 19) 33 rfl (w.heap.size) 3 i0 _ 1 8 Tryz.underlying33 hi hz0 hz1 hz2 rfl (by decide) _ _ _ rfl (hg.alloc _) ⟨wr.heap.size,0,none⟩ 1 1 [.int .i64 2] rfl rfl ?c1 ?c2 ?c3 ?c4 ?c5 ?_;rotate_left 5;intro v' w2 hown2 hgrow2 _)
      case c1=>intro j u hj;match j,hj with | 0,hj=>simp at hj;subst hj;simp [Addr.add]
      case c2=>simp [Value.oneCell']
      case c3=>unfold maxLen;omega
      case c4=>omega
      case c5=>simp;omega
      go_roundw
      case rel =>
       have hsn:=bits_snoc (i:=2) HU.out HL.out (by omega)
       refine ⟨3,xs ++ [2],by omega,by omega,rfl,?_,OwnB.below (by have:=HB.out;exact bel_) HO.out (by simp;omega) hgrow2,?_,hsn.1,hsn.2⟩
       ·rw [List.length_append,List.length_singleton];simpa [intL] using hown2
       ·have hq:=HL.out;have hrl:=up_le (m:=2) HU.out hq;rcases hrl with hrl | rfl <;> simp <;> omega
      case measure=>exact ms_
    | false =>
      go_wp2_with fail
      go_roundw
      case rel=>exact ⟨3,xs,by omega,by omega,rfl,HO.out,by have:=HB.out;exact bel_,hl4,HU.out,fun x hx=>by have:=HL.out x hx;omega⟩
      case measure=>exact ms_
   ·cases hbt:(bits BinOp.and IntKind.i64 n 8 != 0) with
    | true =>
      have hg:=HO.out
      go_wp2_with (at_builtin;refine wpList_append_own _ rfl (.tmp 17) (.tmp 19) 33 rfl (w.heap.size) 3 i0 _ 1 8 Tryz.underlying33 hi hz0 hz1 hz2 rfl (by decide) _ _ _ rfl (hg.alloc _) ⟨wr.heap.size,0,none⟩ 1 1 [.int .i64 3] rfl rfl ?c1 ?c2 ?c3 ?c4 ?c5 ?_;rotate_left 5;intro v' w2 hown2 hgrow2 _)
      case c1=>intro j u hj;match j,hj with | 0,hj=>simp at hj;subst hj;simp [Addr.add]
      case c2=>simp [Value.oneCell']
      case c3=>unfold maxLen;omega
      case c4=>omega
      case c5=>simp;omega
      go_roundw
      case rel =>
       have hsn:=bits_snoc (i:=3) HU.out HL.out (by omega)
       refine ⟨4,xs ++ [3],by omega,by omega,rfl,?_,OwnB.below (by have:=HB.out;exact bel_) HO.out (by simp;omega) hgrow2,?_,hsn.1,hsn.2⟩
       ·rw [List.length_append,List.length_singleton];simpa [intL] using hown2
       ·have hq:=HL.out;have hrl:=up_le (m:=3) HU.out hq;rcases hrl with hrl | rfl <;> simp <;> omega
      case measure=>exact ms_
    | false =>
      go_wp2_with fail
      go_roundw
      case rel=>exact ⟨4,xs,by omega,by omega,rfl,HO.out,by have:=HB.out;exact bel_,hl4,HU.out,fun x hx=>by have:=HL.out x hx;omega⟩
      case measure=>exact ms_
   ·cases hbt:(bits BinOp.and IntKind.i64 n 16 != 0) with
    | true =>
      have hg:=HO.out
      go_wp2_with (at_builtin;refine wpList_append_own _ rfl (.tmp 17) (.tmp 19) 33 rfl (w.heap.size) 3 i0 _ 1 8 Tryz.underlying33 hi hz0 hz1 hz2 rfl (by decide) _ _ _ rfl (hg.alloc _) ⟨wr.heap.size,0,none⟩ 1 1 [.int .i64 4] rfl rfl ?c1 ?c2 ?c3 ?c4 ?c5 ?_;rotate_left 5;intro v' w2 hown2 hgrow2 _)
      case c1=>intro j u hj;match j,hj with | 0,hj=>simp at hj;subst hj;simp [Addr.add]
      case c2=>simp [Value.oneCell']
      case c3=>unfold maxLen;omega
      case c4=>omega
      case c5=>simp;omega
      go_roundw
      case rel =>
       have hsn:=bits_snoc (i:=4) HU.out HL.out (by omega)
       refine ⟨5,xs ++ [4],by omega,by omega,rfl,?_,OwnB.below (by have:=HB.out;exact bel_) HO.out (by simp;omega) hgrow2,?_,hsn.1,hsn.2⟩
       ·rw [List.length_append,List.length_singleton];simpa [intL] using hown2
       ·have hq:=HL.out;have hrl:=up_le (m:=4) HU.out hq;rcases hrl with hrl | rfl <;> simp <;> omega
      case measure=>exact ms_
    | false =>
      go_wp2_with fail
      go_roundw
      case rel=>exact ⟨5,xs,by omega,by omega,rfl,HO.out,by have:=HB.out;exact bel_,hl4,HU.out,fun x hx=>by have:=HL.out x hx;omega⟩
      case measure=>exact ms_
  ·have HO:=hd_ hown
   have HB:=hd_ hB
   have HU:=hd_ hup
   have HL:=hd_ hlo
   clear hown hB hup hlo
   cases xs with
   | nil =>
     obtain ⟨A,c,rfl,hc⟩:=own_slice HO.out
     have hl0:(([]:List Int).length:Int)=0:=rfl
     simp only [List.length_nil] at *
     go_wp2_with fail
     go_ret
     refine ⟨_,_,_,[1],rfl,by have:=HB.out;exact bel_,own_dn (own_new wr 3 #[.int .i64 1] 1 rfl (by decide)) hs0,by decide,by decide,by decide,by simp,fun x hx=>by rw [List.mem_singleton.1 hx];omega⟩
   | cons x xs =>
     obtain ⟨A,c,rfl,hc⟩:=own_slice HO.out
     have hne:(((x :: xs).length:Int) == 0)=false:=by simp;omega
     go_wp2_with fail
     go_ret
     refine ⟨A,_,c,x :: xs,rfl,HB.out,HO.out,hc.1,hc.2,by simp,HU.out,fun y hy=>by have:=HL.out y hy;omega⟩
structure Tw (C:Nat→Nat→Prop) (M M':List ((Int × Int) × Nat)) (P P':List (Int × Int)):Prop where
 fn:∀ a b b',C a b→C a b'→b=b'
 inj:∀ a a' b,C a b→C a' b→a=a'
 key:∀ k,(getN M k=none∧getN M' k=none)∨∃ a b,getN M k=some a∧getN M' k=some b∧C a b
 val:∀ a b,C a b→a<P.length∧b<P'.length∧P.getD a (0,0)=P'.getD b (0,0)
section
variable {C:Nat→Nat→Prop} {M M':List ((Int × Int) × Nat)} {P P':List (Int × Int)}
theorem Tw.none_iff (h:Tw C M M' P P') (k:Int × Int):(getN M k).isNone=(getN M' k).isNone:=by
 rcases h.key k with ⟨h1,h2⟩ | ⟨a,b,h1,h2,-⟩ <;> rw [h1,h2] <;> rfl
theorem Tw.takes (h:Tw C M M' P P') (r:Rcp) (lv:List Int):takesB (encM M) r lv=takesB (encM M') r lv:=by
 unfold takesB
 congr 1
 funext x
 rw [getG_enc,getG_enc]
 have:=h.none_iff (r.src,x)
 cases h1:getN M (r.src,x) <;> cases h2:getN M' (r.src,x) <;> simp_all
theorem Tw.readR (h:Tw C M M' P P') (kn:Int) (R:List Rcp) (t:Rtn):readR kn R M t=readR kn R M' t:=by
 unfold Go.Proofs.YtmcmbicapdcfmaaGreat.readR
 cases findR R t.rcp with
 | none=>rfl
 | some r=>simp only [h.takes]
theorem Tw.set2 (h:Tw C M M' P P') {i j:Nat} (d:Int × Int) (hc:C i j):Tw C M M' (P.set i d) (P'.set j d) :=
 ⟨h.fn,h.inj,h.key,fun a b hab=>by
   obtain ⟨h1,h2,h3⟩:=h.val a b hab
   refine ⟨by simpa using h1,by simpa using h2,?_⟩
   rw [getD_setP,getD_setP]
   by_cases ha:i=a
   ·subst ha
    obtain rfl:=h.fn _ _ _ hc hab
    rw [if_pos ⟨rfl,h1⟩,if_pos ⟨rfl,h2⟩]
   ·have hb:¬ j=b:=fun e=>ha (by subst e;exact h.inj _ _ _ hc hab)
    rw [if_neg (fun e=>ha e.1),if_neg (fun e=>hb e.1),h3]⟩
theorem getN_puts (M:List ((Int × Int) × Nat)) (src:Int) (i:Nat) (l:List Int) (k:Int × Int):getN (putK M src i l) k=if k.1=src∧k.2∈l then some i else getN M k:=getN_putK_eq M src i l k
theorem Tw.put (h:Tw C M M' P P') {i j:Nat} (src:Int) (lv:List Int) (hc:C i j):Tw C (putK M src i lv) (putK M' src j lv) P P' :=
 ⟨h.fn,h.inj,fun k=>by
   rw [getN_puts,getN_puts]
   split
   ·exact .inr ⟨i,j,rfl,rfl,hc⟩
   ·exact h.key k,h.val⟩
theorem Tw.back (h:Tw C M M' P P') (src leaf day:Int):backB M P src leaf day=backB M' P' src leaf day:=by
 unfold backB
 rcases h.key (src,leaf) with ⟨h1,h2⟩ | ⟨a,b,h1,h2,h3⟩
 ·rw [h1,h2]
 ·rw [h1,h2]
  dsimp only
  rw [(h.val a b h3).2.2]
theorem Tw.out (h:Tw C M M' P P') (u v:Rcp):outB M P u v=outB M' P' u v:=by
 funext x
 rw [outB,outB,h.back]
theorem Tw.dbl (h:Tw C M M' P P') (x y:Rcp):dblB M P x y=dblB M' P' x y:=by
 rw [dblB,dblB,h.out,h.out]
theorem Tw.dblR (h:Tw C M M' P P'):∀ R:List Rcp,Go.Proofs.YtmcmbicapdcfmaaGreat.dblR M P R=Go.Proofs.YtmcmbicapdcfmaaGreat.dblR M' P' R
 | []=>rfl
 | x :: R=>by
   rw [Go.Proofs.YtmcmbicapdcfmaaGreat.dblR,Go.Proofs.YtmcmbicapdcfmaaGreat.dblR,Tw.dblR h R]
   have e:dblB M P x=dblB M' P' x:=by funext y;exact h.dbl x y
   rw [e]
def TwS (C:Nat→Nat→Prop) (s s':Int × Int × Int):Prop:=s.1=s'.1∧s.2.2=s'.2.2∧((s.2.1=-1∧s'.2.1=-1)∨∃ a b:Nat,s.2.1=a∧s'.2.1=b∧C a b)
theorem Tw.backI (h:Tw C M M' P P') (src leaf:Int):(backI M src leaf=-1∧backI M' src leaf=-1)∨∃ a b:Nat,backI M src leaf=a∧backI M' src leaf=b∧C a b:=by
 unfold Go.Proofs.YtmcmbicapdcfmaaGreat.backI
 rcases h.key (src,leaf) with ⟨h1,h2⟩ | ⟨a,b,h1,h2,h3⟩
 ·rw [h1,h2];exact .inl ⟨rfl,rfl⟩
 ·rw [h1,h2];exact .inr ⟨a,b,rfl,rfl,h3⟩
theorem Tw.stayL (h:Tw C M M' P P') (leaf day:Int):∀ (rs:List Rcp) (s s':Int × Int × Int),TwS C s s'→TwS C (rs.foldl (stayStep M leaf day) s) (rs.foldl (stayStep M' leaf day) s')
 | [],s,s',hs=>hs
 | r :: rs,s,s',hs=>by
   refine Tw.stayL h leaf day rs _ _ ?_
   unfold stayStep
   rw [hs.2.1]
   split
   ·exact hs
   ·exact ⟨rfl,rfl,h.backI r.src leaf⟩
theorem Tw.stayF (h:Tw C M M' P P') (R:List Rcp) (pap leaf day:Int):TwS C (stayF M R pap leaf day) (Go.Proofs.YtmcmbicapdcfmaaGreat.stayF M' R pap leaf day) :=
 h.stayL leaf day _ _ _ ⟨rfl,rfl,.inl ⟨rfl,rfl⟩⟩
theorem Tw.narS (h:Tw C M M' P P') (R:List Rcp) (s:Sgt):(narS (staySg M R s) P s.per s.day=none∧narS (staySg M' R s) P' s.per s.day=none)∨∃ D D',narS (staySg M R s) P s.per s.day=some D∧narS (staySg M' R s) P' s.per s.day=some D'∧Tw C M M' D D':=by
 obtain ⟨h1,-,h3⟩:=h.stayF R s.pap s.leaf s.day
 unfold Go.Proofs.YtmcmbicapdcfmaaGreat.narS staySg
 dsimp only
 rw [h1]
 rcases h3 with ⟨h3,h4⟩ | ⟨a,b,h3,h4,h5⟩
 ·rw [h3,h4]
  split
  ·exact .inl ⟨rfl,rfl⟩
  ·exact .inr ⟨P,P',by rw [if_pos (by decide)],by rw [if_pos (by decide)],h⟩
 ·rw [h3,h4,Int.toNat_natCast,Int.toNat_natCast,(h.val a b h5).2.2]
  have e1:¬ (a:Int)<0:=by omega
  have e2:¬ (b:Int)<0:=by omega
  simp only [e1,e2,if_false,or_false]
  split
  ·exact .inl ⟨rfl,rfl⟩
  ·split
   ·exact .inl ⟨rfl,rfl⟩
   ·exact .inr ⟨_,_,rfl,rfl,h.set2 _ h5⟩
theorem Tw.narL (R:List Rcp):∀ (S:List Sgt) {P P':List (Int × Int)},Tw C M M' P P'→(narL M R S P=none∧narL M' R S P'=none)∨∃ D D',narL M R S P=some D∧narL M' R S P'=some D'∧Tw C M M' D D'
 | [],P,P',h=>.inr ⟨P,P',rfl,rfl,h⟩
 | s :: S,P,P',h=>by
   rw [Go.Proofs.YtmcmbicapdcfmaaGreat.narL,Go.Proofs.YtmcmbicapdcfmaaGreat.narL]
   rcases h.narS R s with ⟨h1,h2⟩ | ⟨D,D',h1,h2,h3⟩
   ·rw [h1,h2];exact .inl ⟨rfl,rfl⟩
   ·rw [h1,h2];exact Tw.narL R S h3
end
section
variable {P:Program} {md:Region.Mode} {S:World→Prop} {L L0:Array Oper} {Q Q0:Exit→Act→World→Prop}
def PanicOk (Q:Exit→Act→World→Prop):Prop:=∀ (c:_) (a:Act) (k:Tmp) (v:Value) (w:World),Q (.panic c) (Act.put a (some k) v) w→Q (.panic c) a w
theorem PanicOk.all {Q:Exit→Act→World→Prop} (h:PanicOk Q):∀ (c:_) (a:Act) (d:Option Tmp) (v:Value) (w:World),Q (.panic c) (Act.put a d v) w→Q (.panic c) a w:=fun c a d v w hq=>by
 cases d with
 | none=>exact hq
 | some k=>exact h c a k v w hq
theorem wpAnyH_abs {fuel:Nat} {listed:Array Bool} {a:Act} {w:World} (hp:PanicOk Q0) (hs:Region.noSelect L0=true)
 (h:∀ (L:Array Oper) (Q:Exit→Act→World→Prop),Hid (L=L0)→Hid (Q=Q0)→Hid (PanicOk Q)→Hid (Region.noSelect L=true)→wpAnyH P md L Q S fuel listed a w):wpAnyH P md L0 Q0 S fuel listed a w :=
 h L0 Q0 rfl rfl hp hs
theorem wpAnyH_takeL {i:Nat} {oi:Oper} {v:Value} {fuel:Nat} {listed:Array Bool} {a:Act} {w:World} (hL:Hid (L=L0)) (hQ:Hid (PanicOk Q)) (hs:Hid (Region.noSelect L=true))
 (hi:L0[i]?=some oi) (hf:Region.free md L0 listed i=true) (hr:(Region.ready md L0 listed).contains i=true) (hg:oi.guard=none)
 (hy:∀ w,S w→(execOp a.eval oi).run P w=.ok (.value v) w) (hS:S w)
 (h:wpAnyH P md L Q S fuel (listed.setIfInBounds i true) (a.put oi.dst v) w):wpAnyH P md L Q S (fuel+1) listed a w:=by
 have e:L=L0:=hL
 subst e
 exact wpAnyH_take hi hs hf hr (fun c a w=>PanicOk.all hQ c a _ _ w) (Or.inl ⟨by simp [Region.wanted,hg],hy⟩) hS h
theorem AllReadyH.consL {fuel:Nat} {listed:Array Bool} {a:Act} {w:World} {i:Nat} {o:Oper} {rs:List Nat} (hL:Hid (L=L0)) (ho:L0[i]?=some o) (hg:o.guard=none)
 (h:∀ K':Act→World→Prop,Shut (∀ a w,S w→(S w→wpAnyH P md L Q S fuel (listed.setIfInBounds i true) a w)→K' a w)→Oper.wp P o a w K' Q)
 (hs:AllReadyH P md L Q S fuel listed a w rs):AllReadyH P md L Q S fuel listed a w (i :: rs):=by
 have e:L=L0:=hL
 subst e
 refine AllReadyH.cons ho (fun K' hK=>?_) hs
 rw [if_pos (by simp [Region.wanted,hg])]
 exact h K' hK
theorem wpAnyH_readyL {rs:List Nat} {fuel:Nat} {listed:Array Bool} {a:Act} {w:World} (hL:Hid (L=L0)) (hr:Region.ready md L0 listed=rs) (hne:rs≠[])
 (h:AllReadyH P md L Q S fuel listed a w rs):wpAnyH P md L Q S (fuel+1) listed a w:=by
 have e:L=L0:=hL
 subst e
 exact wpAnyH_ready hr hne h
theorem wpAnyH_doneL {listed:Array Bool} {a:Act} {w:World} (hL:Hid (L=L0)) (hQ:Hid (Q=Q0)) (hr:Region.ready md L0 listed=[]) (h:Q0 .normal a w) (fuel:Nat):wpAnyH P md L Q S fuel listed a w:=by
 have e:L=L0:=hL
 have e2:Q=Q0:=hQ
 subst e e2
 exact wpAnyH_done hr h fuel
end
theorem step_appN {P:Program} {w:World} {o:Oper} {a:Act} {K:Act→World→Prop} {Q:Exit→Act→World→Prop} (hgd:o.guard=none) (s x:Operand) (t:TypeId)
 (hop:o.op=.call { callee:=.builtin .append,args:=#[s,x],argTypes:=#[t,t] })
 {base B:Nat} {e:TypeId} {i:TypeInfo} {z:Value} {size bytes:Nat} (ht:P.underlying t=some (.slice e)) (hi:P.info? e=some i) (hz:i.zero=some z)
 (hsize:i.size=size) (hby:i.bytes=bytes) (hzs:z.cells.size=size) (hsz:0<size) {v:Value} {n m c:Nat} {xs news:List Value} {A:Option Addr} (hs:a.eval s=v) (hx:a.eval x=.slice A m c) (ho:w.ownsRow base e size v n xs)
 (hr:Rd w B size A m news) (h1:∀ u∈news,u.oneCell'=true) (h63:n+m≤maxLen) (hb:(n+m)*bytes≤140737488355328) (hbase:base≤w.heap.size)
 (h:∀ v' w',w'.ownsRow base e size v' (n+m) (xs ++ news)→w.grownBy w' v.ownBlock→K (a.put o.dst v') w'):Oper.wp P o a w K Q:=by
 have hk:=step_app (ops:=#[]) (E:=False) (Q:=Q) hgd s x t hop ht hi hz hsize hby hzs hsz hs hx ho hr h1 h63 hb hbase h
 rwa [if_pos (by simp [Region.wanted,hgd])] at hk
section
variable {P:Program} {md:Region.Mode} {S:World→Prop} {L L0:Array Oper} {Q Q0:Exit→Act→World→Prop}
end
end Go.Proofs.YtmcmbicapdcfmaaGreat
namespace Go.Proofs.YtmcmbicapdcfmaaGreat
open Go.RowKit Go.Shelf Go.Proofs
end Go.Proofs.YtmcmbicapdcfmaaGreat
namespace Go.Proofs.YtmcmbicapdcfmaaGreat
open Go.RowKit Go.Maps
theorem RawIn.now {w w':World} {x:Rsl} {r:RawL} (h:RawIn w x r) (hb:Below w.heap.size w w'):RawIn w' x r :=
 ⟨(Rd.ext h.a hb lr_).more hb.size,(Rd.ext h.b hb lr_).more hb.size,(Rd.ext h.c hb lr_).more hb.size⟩
set_option maxRecDepth 10000 in
theorem r_look (l:Led) (x:Lsl) (kn:Int) (w:World) (hl:LedOk l) (hd:LedIn w w.heap.size x l) :
 Calls Tryz.prog 42 #[.agg #[.slice x.pA x.pn x.pc,.slice x.rA x.rn x.rc,.slice x.tA x.tn x.tc,.slice x.sA x.sn x.sc],.int .i64 kn] w fun e w'=>∃ B c,e=.returned (.agg #[.slice x.pA x.pn x.pc,.slice x.rA x.rn x.rc,.slice x.tA x.tn x.tc,.slice x.sA x.sn x.sc,.int .i64 kn,.slice (some ⟨B,0,none⟩) x.tn c,.slice none 0 0])∧Below w.heap.size w w'∧BoxA w' B 4 (boolL (tellK l kn l.rt.length)).toArray∧w.heap.size≤B:=by
 obtain ⟨pA,pn,pc,rA,rn,rc,tA,tn,tc,sA,sn,sc⟩:=x
 show Calls _ _ #[.agg #[.slice pA pn pc,.slice rA rn rc,.slice tA tn tc,.slice sA sn sc],_] _ _
 have HTE:Hid (∀ W:World,Below w.heap.size w W→Calls Tryz.prog 40 #[.agg #[.slice pA pn pc,.slice rA rn rc,.slice tA tn tc,.slice sA sn sc],.int .i64 kn] W (RetTl l kn tn W)):=by
  show ∀ _,_
  exact fun W hW=>r_telling l ⟨pA,pn,pc,rA,rn,rc,tA,tn,tc,sA,sn,sc⟩ kn W hl (hd.now hW)
 clear hd hl
 go_enter Tryz.func42,Tryz.ntmps42
 go_wp2_with fail
 refine wp_named2 fun f1 W4 hf1 hW4=>?_
 have bL:BoxA W4 w.heap.size 32 #[.slice pA pn pc,.slice rA rn rc,.slice tA tn tc,.slice sA sn sc]:=by (rw [← hW4];simp only [boxed_iff,boxa_iff,alloc_get,drew_heap,World.size_alloc];(repeat (first | rw [if_pos trivial] | rw [if_pos (by omega)] | rw [if_neg (by omega)])))
 have bZ:BoxA W4 (w.heap.size+1) 89 #[.slice none 0 0,.slice none 0 0,.slice none 0 0,.slice none 0 0,.int .i64 0,.slice none 0 0,.slice none 0 0]:=by (rw [← hW4];simp only [boxed_iff,boxa_iff,alloc_get,drew_heap,World.size_alloc];(repeat (first | rw [if_pos trivial] | rw [if_pos (by omega)] | rw [if_neg (by omega)])))
 have HB4:Below w.heap.size w W4:=by rw [← hW4];exact bel_
 have hs4:=HB4.size
 clear hW4
 subst hf1
 have kL:=bL.cell
 have zL:=bL.lt
 have zZ:=bZ.lt
 (refine wp_region_held_lit (S:=(fun V=>V.cell? ⟨w.heap.size,0,none⟩=some (.slice pA pn pc)∧V.cell? ⟨w.heap.size,1,none⟩=some (.slice rA rn rc)∧V.cell? ⟨w.heap.size,2,none⟩=some (.slice tA tn tc)∧V.cell? ⟨w.heap.size,3,none⟩=some (.slice sA sn sc))) 7 (by kernel_rfl) rfl ⟨(kL 0).trans rfl,(kL 1).trans rfl,(kL 2).trans rfl,(kL 3).trans rfl⟩ (fun hS=>?_);simp only [List.reduceReplicate,Array.replicate_succ,Array.replicate_zero])
 (refine tk_ (i:=0) (v:=?_) rfl ?_ hS ?_;rotate_left;focus (intro w2 hw2;go_split_ands;go_simp;first | done | with_reducible rfl);(try simp only [Act.put,pu1,pu2,pu3]))
 (refine tk_ (i:=1) (v:=?_) rfl ?_ hS ?_;rotate_left;focus (intro w2 hw2;go_split_ands;go_simp;first | done | with_reducible rfl);(try simp only [Act.put,pu1,pu2,pu3]))
 (refine tk_ (i:=2) (v:=?_) rfl ?_ hS ?_;rotate_left;focus (intro w2 hw2;go_split_ands;go_simp;first | done | with_reducible rfl);(try simp only [Act.put,pu1,pu2,pu3]))
 (refine tk_ (i:=3) (v:=?_) rfl ?_ hS ?_;rotate_left;focus (intro w2 hw2;go_split_ands;go_simp;first | done | with_reducible rfl);(try simp only [Act.put,pu1,pu2,pu3]))
 refine rd_ [4] ?_
 refine ah1 rfl fun K hK=>?_
 (go_simp;go_at_call 40;refine (HTE.out _ (by exact bel_)).mono ?_;rintro e w6 ⟨B,Tc,rfl,hb6,hT,hBB⟩;go_simp)
 have h6:Below W4.heap.size W4 w6:=bt_ (by exact bel_) hb6
 have bL6:=bL.ext h6
 have bZ6:=bZ.ext h6
 have kL6:=bL6.cell
 refine hK.out _ _ ⟨(kL6 0).trans rfl,(kL6 1).trans rfl,(kL6 2).trans rfl,(kL6 3).trans rfl⟩ (fun hS=>?_)
 clear hK K
 (try simp only [Act.put,pu1,pu2,pu3])
 (refine tk_ (i:=5) (v:=?_) rfl ?_ hS ?_;rotate_left;focus (intro w2 hw2;go_split_ands;go_simp;first | done | with_reducible rfl);(try simp only [Act.put,pu1,pu2,pu3]))
 have kZ:=bZ6.cell
 have zZ6:=bZ6.lt
 have fZ:=bZ6.frozen
 have HT:=hd_ hT
 have HBL6:=hd_ bL6
 have HBZ6:=hd_ bZ6
 have hBB2:W4.heap.size≤B:=hBB
 clear kL zL bL bZ bL6 bZ6 kL6 hT
 refine rd_ [6] ?_
 refine ah1 rfl fun K hK=>?_
 go_simp
 have n01:w.heap.size≠w.heap.size+1:=by omega
 have q:=(HBL6.out.other7 n01 (.slice pA pn pc) (.slice rA rn rc) (.slice tA tn tc) (.slice sA sn sc) (.int .i64 kn) (.slice (some ⟨B,0,none⟩) tn Tc) (.slice none 0 0)).cell
 refine hK.out _ _ ⟨(q 0).trans rfl,(q 1).trans rfl,(q 2).trans rfl,(q 3).trans rfl⟩ (fun hS=>?_)
 clear hK K q
 (try simp only [Act.put,pu1,pu2,pu3])
 refine wpAnyH_done (by kernel_rfl) ?_ _
 have bZ7:=HBZ6.out.set7 (.slice pA pn pc) (.slice rA rn rc) (.slice tA tn tc) (.slice sA sn sc) (.int .i64 kn) (.slice (some ⟨B,0,none⟩) tn Tc) (.slice none 0 0)
 have hz4:w.heap.size+1<W4.heap.size:=zZ
 have HT7:=hd_ (HT.out.other7 (show B≠w.heap.size+1 by omega) (.slice pA pn pc) (.slice rA rn rc) (.slice tA tn tc) (.slice sA sn sc) (.int .i64 kn) (.slice (some ⟨B,0,none⟩) tn Tc) (.slice none 0 0))
 have HB7:Below w.heap.size w (((((((w6.setCell ⟨w.heap.size+1,0,none⟩ (.slice pA pn pc)).setCell ⟨w.heap.size+1,1,none⟩ (.slice rA rn rc)).setCell ⟨w.heap.size+1,2,none⟩ (.slice tA tn tc)).setCell ⟨w.heap.size+1,3,none⟩ (.slice sA sn sc)).setCell ⟨w.heap.size+1,4,none⟩ (.int .i64 kn)).setCell ⟨w.heap.size+1,5,none⟩ (.slice (some ⟨B,0,none⟩) tn Tc)).setCell ⟨w.heap.size+1,6,none⟩ (.slice none 0 0)):=below_set7 (HB4.trans (h6.mono hs4)) (Nat.le_succ _) _ _ _ _ _ _ _
 have HZ7:=hd_ bZ7
 obtain ⟨W7,hW7⟩:∃ W7,(((((((w6.setCell ⟨w.heap.size+1,0,none⟩ (.slice pA pn pc)).setCell ⟨w.heap.size+1,1,none⟩ (.slice rA rn rc)).setCell ⟨w.heap.size+1,2,none⟩ (.slice tA tn tc)).setCell ⟨w.heap.size+1,3,none⟩ (.slice sA sn sc)).setCell ⟨w.heap.size+1,4,none⟩ (.int .i64 kn)).setCell ⟨w.heap.size+1,5,none⟩ (.slice (some ⟨B,0,none⟩) tn Tc)).setCell ⟨w.heap.size+1,6,none⟩ (.slice none 0 0))=W7:=⟨_,rfl⟩
 rw [hW7] at HT7 HZ7 HB7 ⊢
 clear hW7 bZ7 kZ zZ6 fZ hS hb6
 have kZ:=HZ7.out.cell
 have zZ:=HZ7.out.lt
 go_wp2
 refine bodyPost_ret (v:=.agg #[.slice pA pn pc,.slice rA rn rc,.slice tA tn tc,.slice sA sn sc,.int .i64 kn,.slice (some ⟨B,0,none⟩) tn Tc,.slice none 0 0]) ?_ rfl ?_
 ·(simp [results,Tryz.f42,go_sem];try go_simp)
 ·exact ⟨_,_,rfl,HB7,HT7.out,by omega⟩
end Go.Proofs.YtmcmbicapdcfmaaGreat
