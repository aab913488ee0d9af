/- Layer 2 of the texts that LoanMoves takes: Mbrq. -/
import Derived.Test.YtmcmbicapdcfmaaGreatMbqq
set_option linter.unusedVariables false
set_option linter.unusedSimpArgs false
set_option maxHeartbeats 16000000
namespace Go.Proofs.YtmcmbicapdcfmaaGreat
open Go.RowKit Go.Maps
structure Rsl where
 (aA:Option Addr) (an ac:Nat)
 (bA:Option Addr) (bn bc:Nat)
 (cA:Option Addr) (cn cc:Nat)
structure RawL where
 (a b c:List Int)
structure RawIn (w:World) (x:Rsl) (r:RawL):Prop where
 a:Rd w w.heap.size 5 x.aA x.an (intL r.a)
 b:Rd w w.heap.size 7 x.bA x.bn (intL r.b)
 c:Rd w w.heap.size 5 x.cA x.cn (intL r.c)
structure Rsl.fit (x:Rsl):Prop where
 a:x.an≤x.ac∧x.ac≤maxLen
 b:x.bn≤x.bc∧x.bc≤maxLen
 c:x.cn≤x.cc∧x.cc≤maxLen
def K2 (b1 b2:Nat) (c1 c2:Array Value) (V:World):Prop:=(∀ o,V.cell? ⟨b1,o,none⟩=c1[o]?)∧(∀ o,V.cell? ⟨b2,o,none⟩=c2[o]?)∧b1<V.heap.size∧b2<V.heap.size
theorem K2.ext {b1 b2:Nat} {c1 c2:Array Value} {V V':World} (hb:Below V.heap.size V V') (h:K2 b1 b2 c1 c2 V):K2 b1 b2 c1 c2 V':=by
 obtain ⟨h1,h2,z1,z2⟩:=h
 have hs:=hb.size
 exact ⟨fun o=>(hb.cell (p:=⟨b1,o,none⟩) z1).trans (h1 o),fun o=>(hb.cell (p:=⟨b2,o,none⟩) z2).trans (h2 o),by omega,by omega⟩
def K3 (b1 b2 b3:Nat) (c1 c2 c3:Array Value) (V:World):Prop:=(∀ o,V.cell? ⟨b1,o,none⟩=c1[o]?)∧(∀ o,V.cell? ⟨b2,o,none⟩=c2[o]?)∧(∀ o,V.cell? ⟨b3,o,none⟩=c3[o]?)∧b1<V.heap.size∧b2<V.heap.size∧b3<V.heap.size
theorem K3.ext {b1 b2 b3:Nat} {c1 c2 c3:Array Value} {V V':World} (hb:Below V.heap.size V V') (h:K3 b1 b2 b3 c1 c2 c3 V):K3 b1 b2 b3 c1 c2 c3 V':=by
 obtain ⟨h1,h2,h3,z1,z2,z3⟩:=h
 have hs:=hb.size
 exact ⟨fun o=>(hb.cell (p:=⟨b1,o,none⟩) z1).trans (h1 o),fun o=>(hb.cell (p:=⟨b2,o,none⟩) z2).trans (h2 o),fun o=>(hb.cell (p:=⟨b3,o,none⟩) z3).trans (h3 o),by omega,by omega,by omega⟩
theorem K3.grownR {b1 b2 b3:Nat} {c1 c2 c3:Array Value} {V V':World} {row:Option Nat} (hg:V.grownBy V' row) (h:K3 b1 b2 b3 c1 c2 c3 V) (n1:some b1≠row) (n2:some b2≠row) (n3:some b3≠row):K3 b1 b2 b3 c1 c2 c3 V':=by
 obtain ⟨h1,h2,h3,z1,z2,z3⟩:=h
 have hs:=hg.size
 have e1:=hg.block b1 z1 n1
 have e2:=hg.block b2 z2 n2
 have e3:=hg.block b3 z3 n3
 exact ⟨fun o=>by rw [← h1 o];simp [World.cell?,e1],fun o=>by rw [← h2 o];simp [World.cell?,e2],fun o=>by rw [← h3 o];simp [World.cell?,e3],by omega,by omega,by omega⟩
def KE (b1 b2:Nat) (c1 c2:Array Value) (b o:Nat) (ec:List Value) (V:World):Prop:=K2 b1 b2 c1 c2 V∧b<V.heap.size∧∀ m u,ec[m]?=some u→V.cell? ⟨b,o+m,none⟩=some u
theorem KE.ext {b1 b2 b o:Nat} {c1 c2:Array Value} {ec:List Value} {V V':World} (hb:Below V.heap.size V V') (h:KE b1 b2 c1 c2 b o ec V):KE b1 b2 c1 c2 b o ec V':=by
 obtain ⟨h0,h1,h2⟩:=h
 have hs:=hb.size
 exact ⟨K2.ext hb h0,by omega,fun m u hu=>(hb.cell (p:=⟨b,o+m,none⟩) h1).trans (h2 m u hu)⟩
theorem BoxA.set8 {W:World} {B:Nat} {t:TypeId} {u0 u1 u2 u3 u4 u5 u6 u7:Value} (h:BoxA W B t #[u0,u1,u2,u3,u4,u5,u6,u7]) (v0 v1 v2 v3 v4 v5 v6 v7:Value) :
 BoxA ((((((((W.setCell ⟨B,0,none⟩ v0).setCell ⟨B,1,none⟩ v1).setCell ⟨B,2,none⟩ v2).setCell ⟨B,3,none⟩ v3).setCell ⟨B,4,none⟩ v4).setCell ⟨B,5,none⟩ v5).setCell ⟨B,6,none⟩ v6).setCell ⟨B,7,none⟩ v7) B t #[v0,v1,v2,v3,v4,v5,v6,v7]:=by
 have:=(((((((h.set 0 v0).set 1 v1).set 2 v2).set 3 v3).set 4 v4).set 5 v5).set 6 v6).set 7 v7
 simpa using this
theorem raw_at {w:World} {A:Option Addr} {n s:Nat} {L:List Int} (h:Rd w w.heap.size s A n (intL L)) {k:Nat} (hk:k<n):∃ b o,A=some ⟨b,o,none⟩∧b<w.heap.size∧∀ j,j<s→w.cell? ⟨b,o+k*s+j,none⟩=some (.int .i64 (L.getD (k*s+j) 0)):=by
 obtain ⟨b,o,e,hb,hc⟩:=h.2 (by omega)
 refine ⟨b,o,e,hb,fun j hj=>?_⟩
 have hl:L.length=n*s:=by have:=h.1;simpa [intL] using this
 have hlt:k*s+j<L.length:=by
  rw [hl]
  calc k*s+j<k*s+s:=by omega
   _=(k+1)*s:=by rw [Nat.succ_mul]
   _≤n*s:=Nat.mul_le_mul_right s hk
 have h1:=hc (k*s+j) (.int .i64 (L.getD (k*s+j) 0)) (by simp [intL,List.getD_eq_getElem?_getD,List.getElem?_eq_getElem hlt])
 rwa [← Nat.add_assoc] at h1
theorem elemB {W:World} {B s n:Nat} {A:Option Addr} {α:Type} {f:α→List Value} {xs:List α} (h:Rd W B s A n (xs.flatMap f)) (hg:∀ (xs:List α) (k j:Nat) (x:α),xs[k]?=some x→j<s→(xs.flatMap f)[k*s+j]?=(f x)[j]?) (hl:∀ x,(f x).length=s) {k:Nat} {z:α} (hz:xs[k]?=some z) (hk:k<n) :
 ∃ b o,A=some ⟨b,o,none⟩∧b<B∧∀ m u,(f z)[m]?=some u→W.cell? ⟨b,o+k*s+m,none⟩=some u:=by
 obtain ⟨b,o,e,hb,hc⟩:=h.2 (by omega)
 refine ⟨b,o,e,hb,fun m u hu=>?_⟩
 have hm:m<s:=by rw [← hl z];exact (List.getElem?_eq_some_iff.1 hu).1
 have h1:=hc (k*s+m) u (by rw [hg xs k m z hz hm];exact hu)
 rwa [← Nat.add_assoc] at h1
theorem own_far {W:World} {base e s n B:Nat} {v:Value} {xs:List Value} (h:W.ownsRow base e s v n xs) (hB:some B≠v.ownBlock) (o:Nat) (u:Value):(W.setCell ⟨B,o,none⟩ u).ownsRow base e s v n xs:=h.kept (grown_setCell W B o u) (.inr fun e=>hB e.symm)
theorem BoxA.set86 {W:World} {B:Nat} {t:TypeId} {u0 u1 u2 u3 u4 u5 u6 u7:Value} (h:BoxA W B t #[u0,u1,u2,u3,u4,u5,u6,u7]) (v:Value):BoxA (W.drew.setCell ⟨B,6,none⟩ v) B t #[u0,u1,u2,u3,u4,u5,v,u7]:=by
 have h1:BoxA W.drew B t #[u0,u1,u2,u3,u4,u5,u6,u7]:=h
 have:=h1.set 6 v
 simpa using this
theorem BoxA.set75 {W:World} {B:Nat} {t:TypeId} {u0 u1 u2 u3 u4 u5 u6:Value} (h:BoxA W B t #[u0,u1,u2,u3,u4,u5,u6]) (v:Value):BoxA (W.drew.setCell ⟨B,5,none⟩ v) B t #[u0,u1,u2,u3,u4,v,u6]:=by
 have h1:BoxA W.drew B t #[u0,u1,u2,u3,u4,u5,u6]:=h
 have:=h1.set 5 v
 simpa using this
theorem BoxA.set71 {W:World} {B:Nat} {t:TypeId} {u0 u1 u2 u3 u4 u5 u6:Value} (h:BoxA W B t #[u0,u1,u2,u3,u4,u5,u6]) (v:Value):BoxA (W.setCell ⟨B,1,none⟩ v) B t #[u0,v,u2,u3,u4,u5,u6]:=by
 have:=h.set 1 v
 simpa using this
theorem bel_drew {W W':World} {lo B:Nat} (h:Below lo W W') (hB:lo≤B) (o:Nat) (u:Value):Below lo W (W'.drew.setCell ⟨B,o,none⟩ u):=h.drew.setCell hB u
theorem own_drew {W:World} {base e s n B:Nat} {v:Value} {xs:List Value} (h:W.ownsRow base e s v n xs) (hB:some B≠v.ownBlock) (o:Nat) (u:Value):(W.drew.setCell ⟨B,o,none⟩ u).ownsRow base e s v n xs:=by
 have h1:W.drew.ownsRow base e s v n xs:=h
 exact own_far h1 hB o u
theorem new_at {W:World} {cs:Array Value} {T:TypeId} {xs:List Value} (h:cs.toList=xs):∀ (j:Nat) u,xs[j]?=some u→(W.alloc (.cells cs T)).cell? ((⟨W.heap.size,0,none⟩:Addr).add j)=some u:=by
 intro j u hj
 have h1:=(BoxA.new W T cs).cell j
 rw [← h] at hj
 have e:(⟨W.heap.size,0,none⟩:Addr).add j=⟨W.heap.size,j,none⟩:=by
  unfold Addr.add
  split
  ·rename_i h0;subst h0;rfl
  ·simp
 rw [e,h1,← hj]
 simp
theorem mod_nat (a:Int) {m:Int} (hm:0<m):∃ k:Nat,a % m=(k:Int)∧(k:Int)<m:=by
 have h0:=Int.emod_nonneg a (Int.ne_of_gt hm)
 have h2:=Int.emod_lt_of_pos a hm
 exact ⟨(a % m).toNat,by omega,by omega⟩
theorem pp_at {m:Nat} (h:(m:Int)<3):∃ p,mPp[m]?=some p∧p∈mPp∧1≤p.lv∧p.lv≤4∧1≤p.id∧p.id≤5:=by
 have h3:m=0∨m=1∨m=2:=by omega
 rcases h3 with rfl | rfl | rfl <;> exact ⟨_,rfl,by simp [mPp],by decide,by decide,by decide,by decide⟩
theorem pp_cells {W:World} {b:Nat} {T:TypeId} (h:BoxA W b T #[.int .i64 1,.int .i64 4,.int .i64 2,.int .i64 3,.int .i64 5,.int .i64 2]) {m:Nat} {p:Ppr} (hp:mPp[m]?=some p):∀ j u,(ppC p)[j]?=some u→W.cell? ⟨b,m*2+j,none⟩=some u:=by
 intro j u hu
 have h1:=flat_get ppC 2 (fun _=>rfl) mPp m j p hp (by have:=(List.getElem?_eq_some_iff.1 hu).1;simpa using this)
 rw [h.cell,← hu,← h1]
 have e:mPp.flatMap ppC=[.int .i64 1,.int .i64 4,.int .i64 2,.int .i64 3,.int .i64 5,.int .i64 2]:=rfl
 rw [e]
 simp
theorem pp_read {W:World} {b B:Nat} {T:TypeId} (h:BoxA W b T #[.int .i64 1,.int .i64 4,.int .i64 2,.int .i64 3,.int .i64 5,.int .i64 2]) (hB:b<B):Pps W B (some ⟨b,0,none⟩) 3 mPp :=
 ⟨rfl,fun _=>⟨b,0,rfl,hB,fun k p hp=>by
   have h0:=pp_cells h hp 0 _ rfl
   have h1:=pp_cells h hp 1 _ rfl
   simp only [Nat.add_zero,Nat.zero_add] at h0 h1 ⊢
   exact ⟨h0,h1⟩⟩⟩
theorem mk0:MkOk 0 ⟨mPp,[],[],[]⟩ []:=⟨rfl,by decide,by decide,by decide,by decide,fun k r h=>by simp at h,fun k r h=>by simp at h,fun k r h=>by simp at h,rfl⟩
theorem bel_far {W W':World} {lo B:Nat} (h:Below lo W W') (hB:lo≤B) (o:Nat) (u:Value):Below lo W (W'.setCell ⟨B,o,none⟩ u):=h.setCell hB u
def RetMade (w:World) (e:Ending) (w':World):Prop:=∃ (y:Lsl) (l:Led) (days:List Int) (D:Option Addr) (dc:Nat) (d:Int),
 e=.returned (.tuple #[.agg #[.slice y.pA y.pn y.pc,.slice y.rA y.rn y.rc,.slice y.tA y.tn y.tc,.slice y.sA y.sn y.sc],.slice D days.length dc])∧Below w.heap.size w w'∧y.fit∧LedIn w' w'.heap.size y l∧MkOk d l days∧Is w' w'.heap.size D days.length days∧days.length≤dc∧dc≤maxLen
section
variable {P:Program} {md:Region.Mode} {S:World→Prop} {L L0:Array Oper} {Q Q0:Exit→Act→World→Prop}
def PanicOk (Q:Exit→Act→World→Prop):Prop:=∀ (c:_) (a:Act) (k:Tmp) (v:Value) (w:World),Q (.panic c) (Act.put a (some k) v) w→Q (.panic c) a w
theorem PanicOk.all {Q:Exit→Act→World→Prop} (h:PanicOk Q):∀ (c:_) (a:Act) (d:Option Tmp) (v:Value) (w:World),Q (.panic c) (Act.put a d v) w→Q (.panic c) a w:=fun c a d v w hq=>by
 cases d with
 | none=>exact hq
 | some k=>exact h c a k v w hq
theorem wpAnyH_abs {fuel:Nat} {listed:Array Bool} {a:Act} {w:World} (hp:PanicOk Q0) (hs:Region.noSelect L0=true)
 (h:∀ (L:Array Oper) (Q:Exit→Act→World→Prop),Hid (L=L0)→Hid (Q=Q0)→Hid (PanicOk Q)→Hid (Region.noSelect L=true)→wpAnyH P md L Q S fuel listed a w):wpAnyH P md L0 Q0 S fuel listed a w :=
 h L0 Q0 rfl rfl hp hs
theorem wpAnyH_takeL {i:Nat} {oi:Oper} {v:Value} {fuel:Nat} {listed:Array Bool} {a:Act} {w:World} (hL:Hid (L=L0)) (hQ:Hid (PanicOk Q)) (hs:Hid (Region.noSelect L=true))
 (hi:L0[i]?=some oi) (hf:Region.free md L0 listed i=true) (hr:(Region.ready md L0 listed).contains i=true) (hg:oi.guard=none)
 (hy:∀ w,S w→(execOp a.eval oi).run P w=.ok (.value v) w) (hS:S w)
 (h:wpAnyH P md L Q S fuel (listed.setIfInBounds i true) (a.put oi.dst v) w):wpAnyH P md L Q S (fuel+1) listed a w:=by
 have e:L=L0:=hL
 subst e
 exact wpAnyH_take hi hs hf hr (fun c a w=>PanicOk.all hQ c a _ _ w) (Or.inl ⟨by simp [Region.wanted,hg],hy⟩) hS h
theorem AllReadyH.consL {fuel:Nat} {listed:Array Bool} {a:Act} {w:World} {i:Nat} {o:Oper} {rs:List Nat} (hL:Hid (L=L0)) (ho:L0[i]?=some o) (hg:o.guard=none)
 (h:∀ K':Act→World→Prop,Shut (∀ a w,S w→(S w→wpAnyH P md L Q S fuel (listed.setIfInBounds i true) a w)→K' a w)→Oper.wp P o a w K' Q)
 (hs:AllReadyH P md L Q S fuel listed a w rs):AllReadyH P md L Q S fuel listed a w (i :: rs):=by
 have e:L=L0:=hL
 subst e
 refine AllReadyH.cons ho (fun K' hK=>?_) hs
 rw [if_pos (by simp [Region.wanted,hg])]
 exact h K' hK
theorem wpAnyH_readyL {rs:List Nat} {fuel:Nat} {listed:Array Bool} {a:Act} {w:World} (hL:Hid (L=L0)) (hr:Region.ready md L0 listed=rs) (hne:rs≠[])
 (h:AllReadyH P md L Q S fuel listed a w rs):wpAnyH P md L Q S (fuel+1) listed a w:=by
 have e:L=L0:=hL
 subst e
 exact wpAnyH_ready hr hne h
theorem wpAnyH_doneL {listed:Array Bool} {a:Act} {w:World} (hL:Hid (L=L0)) (hQ:Hid (Q=Q0)) (hr:Region.ready md L0 listed=[]) (h:Q0 .normal a w) (fuel:Nat):wpAnyH P md L Q S fuel listed a w:=by
 have e:L=L0:=hL
 have e2:Q=Q0:=hQ
 subst e e2
 exact wpAnyH_done hr h fuel
end
theorem step_appN {P:Program} {w:World} {o:Oper} {a:Act} {K:Act→World→Prop} {Q:Exit→Act→World→Prop} (hgd:o.guard=none) (s x:Operand) (t:TypeId)
 (hop:o.op=.call { callee:=.builtin .append,args:=#[s,x],argTypes:=#[t,t] })
 {base B:Nat} {e:TypeId} {i:TypeInfo} {z:Value} {size bytes:Nat} (ht:P.underlying t=some (.slice e)) (hi:P.info? e=some i) (hz:i.zero=some z)
 (hsize:i.size=size) (hby:i.bytes=bytes) (hzs:z.cells.size=size) (hsz:0<size) {v:Value} {n m c:Nat} {xs news:List Value} {A:Option Addr} (hs:a.eval s=v) (hx:a.eval x=.slice A m c) (ho:w.ownsRow base e size v n xs)
 (hr:Rd w B size A m news) (h1:∀ u∈news,u.oneCell'=true) (h63:n+m≤maxLen) (hb:(n+m)*bytes≤140737488355328) (hbase:base≤w.heap.size)
 (h:∀ v' w',w'.ownsRow base e size v' (n+m) (xs ++ news)→w.grownBy w' v.ownBlock→K (a.put o.dst v') w'):Oper.wp P o a w K Q:=by
 have hk:=step_app (ops:=#[]) (E:=False) (Q:=Q) hgd s x t hop ht hi hz hsize hby hzs hsz hs hx ho hr h1 h63 hb hbase h
 rwa [if_pos (by simp [Region.wanted,hgd])] at hk
end Go.Proofs.YtmcmbicapdcfmaaGreat
namespace Go.Proofs.YtmcmbicapdcfmaaGreat
open Go.ChangeShapes Go.WideShapes Go.ChangeAt Go.RowKit Go.Deep
theorem own:ownKnob Tryz.prog.godebug=none:=by kernel_rfl
theorem laidOut:laidOutB Tryz.prog=true:=by kernel_rfl
theorem c1_int:Tryz.prog.cellsOf 3=1:=by kernel_rfl
theorem len2 {α:Type}:∀ {l:List α},l.length=2→∃ a b,l=[a,b]
 | [a,b],_=>⟨a,b,rfl⟩
section
variable {H:Type} {enc:TypeId × Value→H} {w:World} {base:Nat} {spare:Nat→Bool} {held:Bool} {fuel:Nat} {cs:List Value} {x:DataW H × List MemPlace}
theorem int_of (h:DataW.trod enc Tryz.prog w base spare held fuel 3 cs=some x):∃ a,cs=[.int .i64 a]:=by
 obtain ⟨n,h1,_⟩:=DataW.trod_int Tryz.underlying3 h
 exact ⟨n,h1⟩
theorem some_at {α:Type} {l:List α} {i n:Nat} (hl:l.length=n) (hi:i<n):∃ y,l[i]?=some y:=⟨_,List.getElem?_eq_getElem (by omega)⟩
theorem row_of {α:Type} {e t:TypeId} {size:Nat} (enc':α→List Value) (hk:∀ a,(enc' a).length=size) (hsz:0<size) (ht:Tryz.prog.underlying t=some (.slice e)) (hC:Tryz.prog.cellsOf e=size)
 (hel:∀ (fuel:Nat) (cs:List Value) (x:DataW H × List MemPlace),DataW.trod enc Tryz.prog w base spare held fuel e cs=some x→∃ a,cs=enc' a)
 {A:Option Addr} {n c:Nat} (h:DataW.trod enc Tryz.prog w base spare held fuel t (Value.slice A n c).cells.toList=some x) :
 n≤c∧c≤maxLen∧∃ l:List α,l.length=n∧Rd w w.heap.size size A n (l.flatMap enc'):=by
 rcases open_slice ht h with ⟨hcs,_⟩ | ⟨a,len,cap,m,nn,D,Pl,hcs,_,hl,hm,hmm,_,hi⟩
 ·simp [Value.cells] at hcs
  obtain ⟨rfl,rfl,rfl⟩:=hcs
  exact ⟨lr_,Nat.zero_le _,[],rfl,by simp,fun h0=>absurd h0 (by omega)⟩
 ·simp [Value.cells] at hcs
  obtain ⟨rfl,rfl,rfl⟩:=hcs
  refine ⟨hl,hm,?_⟩
  have hlm:n≤m:=by rw [hmm];split <;> omega
  have hex:∀ i,i<n→∃ y:α,∀ j u,(enc' y)[j]?=some u→w.cell? (a.add (i*size+j))=some u:=fun i hin=>by
   obtain ⟨cs',hc,ht'⟩:=hi i (by omega)
   rw [hC] at hc
   obtain ⟨_,hcl,hat⟩:=World.cells?_some hc
   obtain ⟨y,rfl⟩:=hel _ _ _ ht'
   refine ⟨y,fun j u hj=>?_⟩
   have hjl:j<size:=by have:=(List.getElem?_eq_some_iff.1 hj).1;rw [hk] at this;exact this
   rw [← Go.Deep.add_add,hat j hjl,hj]
  have hlist:∀ k,k≤n→∃ l:List α,l.length=k∧∀ i y,l[i]?=some y→∀ j u,(enc' y)[j]?=some u→w.cell? (a.add (i*size+j))=some u:=by
   intro k
   induction k with
   | zero=>exact fun _=>⟨[],rfl,fun i y hy=>by simp at hy⟩
   | succ k ih =>
     intro hkn
     obtain ⟨l,hll,hlf⟩:=ih (by omega)
     obtain ⟨y,hy⟩:=hex k (by omega)
     refine ⟨l ++ [y],by simp [hll],fun i z hz=>?_⟩
     rw [List.getElem?_append] at hz
     split at hz
     ·exact hlf i z hz
     ·rename_i hik
      have hi0:i - l.length=0:=by have:=(List.getElem?_eq_some_iff.1 hz).1;simp at this;omega
      rw [hi0] at hz
      obtain rfl:y=z:=by simpa using hz
      obtain rfl:i=k:=by omega
      exact hy
  obtain ⟨l,hll,hlf⟩:=hlist n lr_
  have hfl:(l.flatMap enc').length=n*size:=by
   rw [← hll]
   clear hlf hll hlist
   induction l with
   | nil=>simp
   | cons y l ih=>simp only [List.flatMap_cons,List.length_append,hk,ih,List.length_cons];rw [Nat.succ_mul];omega
  have hget:∀ t u,(l.flatMap enc')[t]?=some u→w.cell? (a.add t)=some u:=fun t u ht=>by
   have hlt:t<n*size:=by have:=(List.getElem?_eq_some_iff.1 ht).1;omega
   have key:∀ (l:List α) (t:Nat),(l.flatMap enc')[t]?=(l[t / size]?).bind fun y=>(enc' y)[t % size]?:=by
    intro l
    induction l with
    | nil=>intro t;simp
    | cons y l ih =>
      intro t
      rw [List.flatMap_cons,List.getElem?_append,hk]
      by_cases h1:t<size
      ·rw [if_pos h1,Nat.div_eq_of_lt h1,Nat.mod_eq_of_lt h1]
       rfl
      ·rw [if_neg h1,ih]
       have e1:t / size=(t - size) / size+1:=by
        rw [Nat.div_eq t size,if_pos ⟨hsz,by omega⟩]
       have e2:t % size=(t - size) % size:=Nat.mod_eq_sub_mod (by omega)
       rw [e1,e2,List.getElem?_cons_succ]
   rw [key] at ht
   obtain ⟨y,hy,hu⟩:=Option.bind_eq_some_iff.1 ht
   have:=hlf _ y hy _ u hu
   have e3:t / size*size+t % size=t:=by rw [Nat.mul_comm];exact Nat.div_add_mod t size
   rwa [e3] at this
  refine ⟨l,hll,hfl,fun h0=>?_⟩
  obtain ⟨u0,hu0⟩:∃ u,(l.flatMap enc')[0]?=some u:=⟨_,List.getElem?_eq_getElem (by rw [hfl];exact Nat.mul_pos h0 hsz)⟩
  obtain ⟨b,off,spot⟩:=a
  have hspot:spot=none:=by simpa [Addr.add] using World.cell?_spot (hget 0 u0 hu0)
  subst hspot
  have hc0:=hget 0 u0 hu0
  rw [Go.WideShapes.add_plain] at hc0
  refine ⟨b,off,rfl,?_,fun j u hj=>by rw [← Go.WideShapes.add_plain];exact hget j u hj⟩
  exact block_lt_of_cell hc0
end
end Go.Proofs.YtmcmbicapdcfmaaGreat
namespace Go.Proofs.YtmcmbicapdcfmaaGreat
open Go.RowKit Go.Maps
end Go.Proofs.YtmcmbicapdcfmaaGreat
