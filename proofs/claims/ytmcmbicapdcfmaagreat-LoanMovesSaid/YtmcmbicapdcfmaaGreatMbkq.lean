/- Layer 2 of the texts that LoanMoves takes: Mbkq. -/
import Derived.Test.YtmcmbicapdcfmaaGreatMbjq
import Derived.Test.YtmcmbicapdcfmaaGreatMbeq
import Derived.Test.YtmcmbicapdcfmaaGreatMbiq
import Derived.Test.YtmcmbicapdcfmaaGreatMbgq
set_option linter.unusedVariables false
set_option linter.unusedSimpArgs false
set_option maxHeartbeats 16000000
namespace Go.Proofs.YtmcmbicapdcfmaaGreat
open Go.RowKit Go.Maps
theorem p_exc1 (x:Rv) (src:Int) (q:Nat) (w:World) (hq:q<w.heap.size) (hc:w.cell? ⟨q,0,none⟩=some (.int .i64 src)) :
 Calls Tryz.prog 138 #[.agg (rvC x).toArray,.pointer (some ⟨q,0,none⟩)] w fun e w'=>e=.returned (.bool (x.r.src == src))∧Below w.heap.size w w':=by
 go_enter Tryz.func138,Tryz.ntmps138
 go_wp2
 go_ret
 exact ⟨rfl,by exact bel_⟩
theorem p_exc2 (x:Tv) (src:Int) (q:Nat) (w:World) (hq:q<w.heap.size) (hc:w.cell? ⟨q,0,none⟩=some (.int .i64 src)) :
 Calls Tryz.prog 140 #[.agg (tvC x).toArray,.pointer (some ⟨q,0,none⟩)] w fun e w'=>e=.returned (.bool (x.r.src == src))∧Below w.heap.size w w':=by
 go_enter Tryz.func140,Tryz.ntmps140
 go_wp2
 go_ret
 exact ⟨rfl,by exact bel_⟩
theorem p_exc3 (x:Sgt) (src:Int) (q:Nat) (w:World) (hq:q<w.heap.size) (hc:w.cell? ⟨q,0,none⟩=some (.int .i64 src)) :
 Calls Tryz.prog 142 #[.agg (sgC x).toArray,.pointer (some ⟨q,0,none⟩)] w fun e w'=>e=.returned (.bool (x.src == src))∧Below w.heap.size w w':=by
 go_enter Tryz.func142,Tryz.ntmps142
 go_wp2
 go_ret
 exact ⟨rfl,by exact bel_⟩
structure ExS (w W:World) (C:Array Value) (src:Int):Prop where
 hB:Below w.heap.size w W
 bL:BoxA W w.heap.size 32 C
 bS:BoxA W (w.heap.size+1) 3 #[.int .i64 src]
 bZ:BoxA W (w.heap.size+2) 32 #[.slice none 0 0,.slice none 0 0,.slice none 0 0,.slice none 0 0]
theorem ExS.ext {w W W':World} {C:Array Value} {src:Int} (h:ExS w W C src) (hb:Below W.heap.size W W'):ExS w W' C src:=⟨bt_ h.hB hb,h.bL.ext hb,h.bS.ext hb,h.bZ.ext hb⟩
theorem ExS.set {w W:World} {C:Array Value} {src:Int} (h:ExS w W C src) (o:Nat) (u:Value):ExS w (W.setCell ⟨w.heap.size,o,none⟩ u) (C.setIfInBounds o u) src:=⟨h.hB.setCell lr_ _,h.bL.set o u,h.bS.other (by simp) _,h.bZ.other (by simp) _⟩
theorem ExS.setAll {w W:World} {C:Array Value} {src:Int} (h:ExS w W C src) (vs:List Value) (hl:vs.length=C.size):ExS w (W.setCells w.heap.size 0 vs) vs.toArray src:=by
 have hg:=grown_setCells w.heap.size vs 0 W
 exact ⟨h.hB.grown hg h.hB.size (fun b e=>by cases e;exact lr_),h.bL.setAll vs hl,h.bS.kept hg (fun e=>by injection e with e;omega),h.bZ.kept hg (fun e=>by injection e with e;omega)⟩
theorem ExS.grow {w W W':World} {C:Array Value} {src:Int} (h:ExS w W C src) {row:Option Nat} (hg:W.grownBy W' row) (hr:∀ b,row=some b→w.heap.size+3≤b):ExS w W' C src :=
 ⟨h.hB.grown hg h.hB.size fun b hb=>by have:=hr b hb;omega,h.bL.kept hg (fun e=>by have:=hr _ e.symm;omega),h.bS.kept hg (fun e=>by have:=hr _ e.symm;omega),h.bZ.kept hg (fun e=>by have:=hr _ e.symm;omega)⟩
theorem ExS.new (w:World) (C:Array Value) (src:Int):ExS w (((w.alloc (.cells C 32)).alloc (.cells #[.int .i64 src] 3)).alloc (.cells #[.slice none 0 0,.slice none 0 0,.slice none 0 0,.slice none 0 0] 32)) C src:=by
 have h:=box3 w 32 3 32 C #[.int .i64 src] #[.slice none 0 0,.slice none 0 0,.slice none 0 0,.slice none 0 0]
 exact ⟨by exact bel_,h.1,h.2.1,h.2.2⟩
theorem Cop.delR {W W':World} {base:Nat} {y:Lsl} {pp:List Ppr} {rvs rvs':List Rv} {tvs:List Tv} {sg:List Sgt} (h:Cop W base y pp rvs tvs sg) {A:Option Addr} {n c:Nat} (ho:W'.ownsRow base 79 7 (.slice A n c) n (rvs'.flatMap rvC)) (hg:W.grownBy W' (Value.slice y.rA y.rn y.rc).ownBlock) (hs:∀ v∈rvs',v∈rvs):Cop W' base ⟨y.pA,y.pn,y.pc,A,n,c,y.tA,y.tn,y.tc,y.sA,y.sn,y.sc⟩ pp rvs' tvs sg :=
 ⟨own_other h.p h.r ty_ne.1 hg,ho,own_other h.t h.r ty_ne.2.2.2.1.symm hg,own_other h.s h.r ty_ne.2.2.2.2.1.symm hg,fun v hv=>own_other (h.rl v (hs v hv)) h.r ty_ne.2.2.2.2.2.2.2.1 hg,fun v hv=>own_other (h.tl v hv) h.r ty_ne.2.2.2.2.2.2.2.1 hg⟩
theorem Cop.delT {W W':World} {base:Nat} {y:Lsl} {pp:List Ppr} {rvs:List Rv} {tvs tvs':List Tv} {sg:List Sgt} (h:Cop W base y pp rvs tvs sg) {A:Option Addr} {n c:Nat} (ho:W'.ownsRow base 75 8 (.slice A n c) n (tvs'.flatMap tvC)) (hg:W.grownBy W' (Value.slice y.tA y.tn y.tc).ownBlock) (hs:∀ v∈tvs',v∈tvs):Cop W' base ⟨y.pA,y.pn,y.pc,y.rA,y.rn,y.rc,A,n,c,y.sA,y.sn,y.sc⟩ pp rvs tvs' sg :=
 ⟨own_other h.p h.t ty_ne.2.1 hg,own_other h.r h.t ty_ne.2.2.2.1 hg,ho,own_other h.s h.t ty_ne.2.2.2.2.2.1.symm hg,fun v hv=>own_other (h.rl v hv) h.t ty_ne.2.2.2.2.2.2.2.2.1 hg,fun v hv=>own_other (h.tl v (hs v hv)) h.t ty_ne.2.2.2.2.2.2.2.2.1 hg⟩
theorem Cop.putS {W W':World} {base:Nat} {y:Lsl} {pp:List Ppr} {rvs:List Rv} {tvs:List Tv} {sg sg':List Sgt} (h:Cop W base y pp rvs tvs sg) {A:Option Addr} {n c:Nat} (ho:W'.ownsRow base 70 7 (.slice A n c) n (sg'.flatMap sgC)) (hg:W.grownBy W' (Value.slice y.sA y.sn y.sc).ownBlock):Cop W' base ⟨y.pA,y.pn,y.pc,y.rA,y.rn,y.rc,y.tA,y.tn,y.tc,A,n,c⟩ pp rvs tvs sg' :=
 ⟨own_other h.p h.s ty_ne.2.2.1 hg,own_other h.r h.s ty_ne.2.2.2.2.1 hg,own_other h.t h.s ty_ne.2.2.2.2.2.1 hg,ho,fun v hv=>own_other (h.rl v hv) h.s ty_ne.2.2.2.2.2.2.2.2.2 hg,fun v hv=>own_other (h.tl v hv) h.s ty_ne.2.2.2.2.2.2.2.2.2 hg⟩
set_option maxRecDepth 10000 in
theorem p_except (l:Led) (x:Lsl) (src:Int) (w:World) (hl:LedOk l) (hd:LedIn w w.heap.size x l) :
 Calls Tryz.prog 95 #[.agg #[.slice x.pA x.pn x.pc,.slice x.rA x.rn x.rc,.slice x.tA x.tn x.tc,.slice x.sA x.sn x.sc],.int .i64 src] w fun e w'=>∃ y:Lsl,e=.returned (.agg #[.slice y.pA y.pn y.pc,.slice y.rA y.rn y.rc,.slice y.tA y.tn y.tc,.slice y.sA y.sn y.sc])∧Below w.heap.size w w'∧y.fit∧LedIn w' w'.heap.size y (excL l src):=by
 obtain ⟨pA,pn,pc,rA,rn,rc,tA,tn,tc,sA,sn,sc⟩:=x
 show Calls _ _ #[.agg #[.slice pA pn pc,.slice rA rn rc,.slice tA tn tc,.slice sA sn sc],_] _ _
 have HS0:=hd_ (ExS.new w #[.slice pA pn pc,.slice rA rn rc,.slice tA tn tc,.slice sA sn sc] src)
 have HL:=hd_ hl
 have HD:=hd_ hd
 have hmf:∀ (fn:Fn) (first cap:Array Value) (w:World),(Instr.makeFunc fn first cap).run Tryz.prog w=.ok (.func fn first cap) w:=fun _ _ _ _=>rfl
 clear hl hd
 go_enter Tryz.func95,Tryz.ntmps95
 go_wp2_with fail
 refine (p_copied l ⟨pA,pn,pc,rA,rn,rc,tA,tn,tc,sA,sn,sc⟩ _ HL.out (HD.out.now HS0.out.hB)).mono ?_
 rintro e w1 ⟨⟨p1A,p1n,p1c,r1A,r1n,r1c,t1A,t1n,t1c,s1A,s1n,s1c⟩,rvs,tvs,rfl,hb1,hc1,hr1,ht1⟩
 have HS1:=hd_ (HS0.out.ext hb1)
 have HC1:=hd_ (hc1.dn (base':=w.heap.size+3) (by simp))
 have HR1:=hd_ hr1
 have HT1:=hd_ ht1
 have kL1:=HS1.out.bL.cell
 have zL1:=HS1.out.bL.lt
 have fL1:=HS1.out.bL.frozen
 clear hb1 hc1 hr1 ht1
 have hrl:rvs.length≤60:=by have h1:=HL.out.rn;have h2:=congrArg List.length HR1.out;rw [List.length_map] at h2;omega
 have htl:tvs.length≤60:=by have h1:=HL.out.tn;have h2:=congrArg List.length HT1.out;rw [List.length_map] at h2;omega
 have hgl:l.sg.length≤60:=HL.out.sn
 go_wp2_with fail
 obtain ⟨w2,hw2⟩:∃ W,W=((((w1.setCell ⟨w.heap.size,0,none⟩ (.slice p1A p1n p1c)).setCell ⟨w.heap.size,1,none⟩ (.slice r1A r1n r1c)).setCell ⟨w.heap.size,2,none⟩ (.slice t1A t1n t1c)).setCell ⟨w.heap.size,3,none⟩ (.slice s1A s1n s1c)):=⟨_,rfl⟩
 rw [← hw2]
 have HS2:Hid (ExS w w2 #[.slice p1A p1n p1c,.slice r1A r1n r1c,.slice t1A t1n t1c,.slice s1A s1n s1c] src):=by show ExS _ _ _ _;rw [hw2];exact HS1.out.setAll [.slice p1A p1n p1c,.slice r1A r1n r1c,.slice t1A t1n t1c,.slice s1A s1n s1c] rfl
 have HC2:Hid (Cop w2 (w.heap.size+3) ⟨p1A,p1n,p1c,r1A,r1n,r1c,t1A,t1n,t1c,s1A,s1n,s1c⟩ l.pp rvs tvs l.sg):=by show Cop _ _ _ _ _ _ _;rw [hw2];exact HC1.out.kept HS1.out.bL (grown_setCells w.heap.size [.slice p1A p1n p1c,.slice r1A r1n r1c,.slice t1A t1n t1c,.slice s1A s1n s1c] 0 w1)
 clear hw2 kL1 zL1 fL1 HS1 HC1
 refine (l_deleteRcp rvs (fun v=>v.r.src == src) (w.heap.size+1) (w.heap.size+3) (.slice r1A r1n r1c) r1n w2 (by have h9:rvs.length=r1n:=own_len HC2.out.r (fun _=>rfl) (by omega);omega) (own_len HC2.out.r (fun _=>rfl) (by omega)) HC2.out.r (by have:=HS2.out.bZ.lt;omega) (fun W hg v hv=>?_)).mono ?_
 ·have bS:=HS2.out.bS.kept hg (own_ne HC2.out.r HS2.out.bS (by decide))
  exact p_exc1 v src _ W bS.lt (bS.cell 0)
 rintro e w3 ⟨v3,rfl,ho3,hg3,_⟩
 obtain ⟨x3,hx3⟩:∃ z,(rvs.filter fun v=>!(v.r.src == src))=z:=⟨_,rfl⟩
 rw [hx3] at ho3
 obtain ⟨n3,hn3⟩:∃ n,x3.length=n:=⟨_,rfl⟩
 rw [hn3] at ho3
 obtain ⟨A3,c3,rfl,hcc3⟩:=own_slice ho3
 have HX3:=hd_ hx3
 have HS3:=hd_ (HS2.out.grow hg3 (fun b hb=>own_le HC2.out.r hb))
 have HC3:=hd_ (HC2.out.delR ho3 hg3 (fun v hv=>(List.mem_filter.1 (HX3.out ▸ hv)).1))
 have kL3:=HS3.out.bL.cell
 have zL3:=HS3.out.bL.lt
 have fL3:=HS3.out.bL.frozen
 clear ho3 hg3 hx3 hn3
 go_wp2_with fail
 obtain ⟨w4,hw4⟩:∃ W,W=w3.setCell ⟨w.heap.size,1,none⟩ (.slice A3 n3 c3):=⟨_,rfl⟩
 rw [← hw4]
 have HS4:Hid (ExS w w4 #[.slice p1A p1n p1c,.slice A3 n3 c3,.slice t1A t1n t1c,.slice s1A s1n s1c] src):=by show ExS _ _ _ _;rw [hw4];exact HS3.out.set 1 _
 have HC4:=hd_ (HC3.out.kept HS3.out.bL (grown_setCell w3 w.heap.size 1 (.slice A3 n3 c3)))
 rw [← hw4] at HC4
 clear hw4 kL3 zL3 fL3 HS3 HC3
 refine (l_deleteRtn tvs (fun v=>v.r.src == src) (w.heap.size+1) (w.heap.size+3) (.slice t1A t1n t1c) t1n w4 (by have h9:tvs.length=t1n:=own_len HC4.out.t (fun _=>rfl) (by omega);omega) (own_len HC4.out.t (fun _=>rfl) (by omega)) HC4.out.t (by have:=HS4.out.bZ.lt;omega) (fun W hg v hv=>?_)).mono ?_
 ·have bS:=HS4.out.bS.kept hg (own_ne HC4.out.t HS4.out.bS (by decide))
  exact p_exc2 v src _ W bS.lt (bS.cell 0)
 rintro e w5 ⟨v5,rfl,ho5,hg5,_⟩
 obtain ⟨x5,hx5⟩:∃ z,(tvs.filter fun v=>!(v.r.src == src))=z:=⟨_,rfl⟩
 rw [hx5] at ho5
 obtain ⟨n5,hn5⟩:∃ n,x5.length=n:=⟨_,rfl⟩
 rw [hn5] at ho5
 obtain ⟨A5,c5,rfl,hcc5⟩:=own_slice ho5
 have HX5:=hd_ hx5
 have HS5:=hd_ (HS4.out.grow hg5 (fun b hb=>own_le HC4.out.t hb))
 have HC5:=hd_ (HC4.out.delT ho5 hg5 (fun v hv=>(List.mem_filter.1 (HX5.out ▸ hv)).1))
 have kL5:=HS5.out.bL.cell
 have zL5:=HS5.out.bL.lt
 have fL5:=HS5.out.bL.frozen
 clear ho5 hg5 hx5 hn5
 go_wp2_with fail
 obtain ⟨w6,hw6⟩:∃ W,W=w5.setCell ⟨w.heap.size,2,none⟩ (.slice A5 n5 c5):=⟨_,rfl⟩
 rw [← hw6]
 have HS6:Hid (ExS w w6 #[.slice p1A p1n p1c,.slice A3 n3 c3,.slice A5 n5 c5,.slice s1A s1n s1c] src):=by show ExS _ _ _ _;rw [hw6];exact HS5.out.set 2 _
 have HC6:=hd_ (HC5.out.kept HS5.out.bL (grown_setCell w5 w.heap.size 2 (.slice A5 n5 c5)))
 rw [← hw6] at HC6
 clear hw6 kL5 zL5 fL5 HS5 HC5
 refine (l_deleteSgt l.sg (fun v=>v.src == src) (w.heap.size+1) (w.heap.size+3) (.slice s1A s1n s1c) s1n w6 (by have h9:l.sg.length=s1n:=own_len HC6.out.s (fun _=>rfl) (by omega);omega) (own_len HC6.out.s (fun _=>rfl) (by omega)) HC6.out.s (by have:=HS6.out.bZ.lt;omega) (fun W hg v hv=>?_)).mono ?_
 ·have bS:=HS6.out.bS.kept hg (own_ne HC6.out.s HS6.out.bS (by decide))
  exact p_exc3 v src _ W bS.lt (bS.cell 0)
 rintro e w7 ⟨v7,rfl,ho7,hg7,_⟩
 obtain ⟨x7,hx7⟩:∃ z,(l.sg.filter fun v=>!(v.src == src))=z:=⟨_,rfl⟩
 rw [hx7] at ho7
 obtain ⟨n7,hn7⟩:∃ n,x7.length=n:=⟨_,rfl⟩
 rw [hn7] at ho7
 obtain ⟨A7,c7,rfl,hcc7⟩:=own_slice ho7
 have HX7:=hd_ hx7
 have HS7:=hd_ (HS6.out.grow hg7 (fun b hb=>own_le HC6.out.s hb))
 have HC7:=hd_ (HC6.out.putS ho7 hg7 )
 have kL7:=HS7.out.bL.cell
 have zL7:=HS7.out.bL.lt
 have fL7:=HS7.out.bL.frozen
 have kZ7:=HS7.out.bZ.cell
 have zZ7:=HS7.out.bZ.lt
 have fZ7:=HS7.out.bZ.frozen
 clear ho7 hg7 hx7 hn7
 go_wp2
 have HS8:=hd_ (HS7.out.set 3 (.slice A7 n7 c7))
 have HC8:=hd_ (HC7.out.kept HS7.out.bL (grown_setCell w7 w.heap.size 3 (.slice A7 n7 c7)))
 obtain ⟨W2,hW2⟩:∃ W2,W2=(w7.setCell ⟨w.heap.size,3,none⟩ (.slice A7 n7 c7)).setCells (w.heap.size+2) 0 [.slice p1A p1n p1c,.slice A3 n3 c3,.slice A5 n5 c5,.slice A7 n7 c7]:=⟨_,rfl⟩
 have bZ2:BoxA W2 (w.heap.size+2) 32 #[.slice p1A p1n p1c,.slice A3 n3 c3,.slice A5 n5 c5,.slice A7 n7 c7]:=by rw [hW2];exact HS8.out.bZ.setAll [.slice p1A p1n p1c,.slice A3 n3 c3,.slice A5 n5 c5,.slice A7 n7 c7] rfl
 have hB2:Below w.heap.size w W2:=by rw [hW2];exact HS8.out.hB.grown (grown_setCells _ _ _ _) HS8.out.hB.size (fun b e=>by cases e;omega)
 have HC9:Hid (Cop W2 (w.heap.size+3) ⟨p1A,p1n,p1c,A3,n3,c3,A5,n5,c5,A7,n7,c7⟩ l.pp x3 x5 x7):=by show Cop _ _ _ _ _ _ _;rw [hW2];exact HC8.out.kept HS8.out.bZ (grown_setCells _ _ _ _)
 have kz2:=bZ2.cell
 have zz2:=bZ2.lt
 have HW2:=hd_ hW2
 clear hW2 kL7 zL7 fL7 kZ7 zZ7 fZ7
 refine bodyPost_w (W2:=W2) (by rw [HW2.out];rfl) ?_
 refine bodyPost_ret (v:=.agg #[.slice p1A p1n p1c,.slice A3 n3 c3,.slice A5 n5 c5,.slice A7 n7 c7]) ?_ rfl ?_
 ·(simp [results,Tryz.f95,go_sem];try go_simp)
 ·have hex:excL l src=⟨l.pp,x3.map Rv.r,x5.map Tv.r,x7⟩:=by
   rw [excL,← HR1.out,← HT1.out,← HX3.out,← HX5.out,← HX7.out,exc_rv,exc_tv]
  exact ⟨⟨p1A,p1n,p1c,A3,n3,c3,A5,n5,c5,A7,n7,c7⟩,rfl,hB2,HC9.out.fit,by rw [hex];exact HC9.out.led⟩
structure One9 (W W':World) (B:Nat) (cs:Array Value):Prop where
 box:BoxA W B 115 cs
 nine:∃ A n c,cs[9]?=some (.slice A n c)
 ten:cs.size=10
 same:∀ b o,¬ (b=B∧o=9)→W'.cell? ⟨b,o,none⟩=W.cell? ⟨b,o,none⟩
 size:W'.heap.size=W.heap.size
 heap:∀ b,b≠B→W'.heap[b]?=W.heap[b]?
section
variable {W W':World} {B:Nat} {cs:Array Value}
theorem One9.of (hb:BoxA W B 115 cs) (h9:∃ A n c,cs[9]?=some (.slice A n c)) (h10:cs.size=10) (u:Value):One9 W (W.setCell ⟨B,9,none⟩ u) B cs :=
 ⟨hb,h9,h10,fun b o h=>World.cell?_setCell_other _ _ _ _ (fun e=>h (by injection e with e1 e2;exact ⟨e1.symm,e2.symm⟩)),by simp,fun b h=>Below.heap_setCell _ _ _ _ h⟩
theorem One9.int (h:One9 W W' B cs) {b o:Nat} {v:Int} (hc:W.cell? ⟨b,o,none⟩=some (.int .i64 v)):W'.cell? ⟨b,o,none⟩=some (.int .i64 v):=by
 by_cases e:b=B∧o=9
 ·obtain ⟨rfl,rfl⟩:=e
  obtain ⟨A,n,c,h9⟩:=h.nine
  rw [h.box.cell,h9] at hc
  cases hc
 ·rw [h.same b o e];exact hc
theorem One9.bool (h:One9 W W' B cs) {b o:Nat} {v:Bool} (hc:W.cell? ⟨b,o,none⟩=some (.bool v)):W'.cell? ⟨b,o,none⟩=some (.bool v):=by
 by_cases e:b=B∧o=9
 ·obtain ⟨rfl,rfl⟩:=e
  obtain ⟨A,n,c,h9⟩:=h.nine
  rw [h.box.cell,h9] at hc
  cases hc
 ·rw [h.same b o e];exact hc
theorem One9.sl (h:One9 W W' B cs) {b o n c:Nat} {A:Option Addr} {v:Int} (hc:W.cell? ⟨b,o,none⟩=some (.slice A n c)) (hd:W.cell? ⟨b,o+1,none⟩=some (.int .i64 v)):W'.cell? ⟨b,o,none⟩=some (.slice A n c):=by
 by_cases e:b=B∧o=9
 ·obtain ⟨rfl,rfl⟩:=e
  rw [h.box.cell,Array.getElem?_eq_none (by rw [h.ten];exact lr_)] at hd
  cases hd
 ·rw [h.same b o e];exact hc
theorem One9.is (h:One9 W W' B cs) {B' n:Nat} {A:Option Addr} {xs:List Int} (hi:Is W B' A n xs):Is W' B' A n xs:=by
 refine ⟨hi.1,fun h0=>?_⟩
 obtain ⟨b,o,e,hb,hc⟩:=hi.2 h0
 refine ⟨b,o,e,hb,fun j u hu=>?_⟩
 have h1:=hc j u hu
 rw [List.getElem?_map] at hu
 obtain ⟨x,_,rfl⟩:=Option.map_eq_some_iff.1 hu
 exact h.int h1
theorem One9.rcs (h:One9 W W' B cs) {B' n:Nat} {A:Option Addr} {R:List Rcp} (hr:Rcs W B' A n R):Rcs W' B' A n R:=by
 refine ⟨hr.1,fun h0=>?_⟩
 obtain ⟨b,o,e,hb,hc⟩:=hr.2 h0
 refine ⟨b,o,e,hb,fun k x hx=>?_⟩
 obtain ⟨A1,n1,c1,⟨a0,a1,a2,a3,a4,a5,a6⟩,hi,hn⟩:=hc k x hx
 exact ⟨A1,n1,c1,⟨h.int a0,h.int a1,h.int a2,h.sl a3 a4,h.int a4,h.int a5,h.int a6⟩,h.is hi,hn⟩
theorem One9.sgs (h:One9 W W' B cs) {B' n:Nat} {A:Option Addr} {S:List Sgt} (hr:Sgs W B' A n S):Sgs W' B' A n S:=by
 refine ⟨hr.1,fun h0=>?_⟩
 obtain ⟨b,o,e,hb,hc⟩:=hr.2 h0
 refine ⟨b,o,e,hb,fun k x hx=>?_⟩
 obtain ⟨a0,a1,a2,a3,a4,a5,a6⟩:=hc k x hx
 exact ⟨h.int a0,h.int a1,h.int a2,h.int a3,h.int a4,h.int a5,h.int a6⟩
theorem One9.fos (h:One9 W W' B cs) {B' n:Nat} {A:Option Addr} {P:List (Int × Int)} (hr:Sq QF 2 W B' A n P):Sq QF 2 W' B' A n P:=by
 refine ⟨hr.1,fun h0=>?_⟩
 obtain ⟨b,o,e,hb,hc⟩:=hr.2 h0
 refine ⟨b,o,e,hb,fun k x hx=>?_⟩
 obtain ⟨a0,a1⟩:=hc k x hx
 exact ⟨h.int a0,h.int a1⟩
theorem One9.bls (h:One9 W W' B cs) {B' n:Nat} {A:Option Addr} {T:List Bool} (hr:Sq QB 1 W B' A n T):Sq QB 1 W' B' A n T:=by
 refine ⟨hr.1,fun h0=>?_⟩
 obtain ⟨b,o,e,hb,hc⟩:=hr.2 h0
 exact ⟨b,o,e,hb,fun k x hx=>h.bool (hc k x hx)⟩
theorem One9.pps (h:One9 W W' B cs) {B' n:Nat} {A:Option Addr} {P:List Ppr} (hr:Pps W B' A n P):Pps W' B' A n P:=by
 refine ⟨hr.1,fun h0=>?_⟩
 obtain ⟨b,o,e,hb,hc⟩:=hr.2 h0
 refine ⟨b,o,e,hb,fun k x hx=>?_⟩
 obtain ⟨a0,a1⟩:=hc k x hx
 exact ⟨h.int a0,h.int a1⟩
theorem One9.rts (h:One9 W W' B cs) {B' n:Nat} {A:Option Addr} {R:List Rtn} (hr:Rts W B' A n R):Rts W' B' A n R:=by
 refine ⟨hr.1,fun h0=>?_⟩
 obtain ⟨b,o,e,hb,hc⟩:=hr.2 h0
 refine ⟨b,o,e,hb,fun k x hx=>?_⟩
 obtain ⟨A1,n1,c1,⟨a0,a1,a2,a3,a4,a5,a6,a7⟩,hi,hn⟩:=hc k x hx
 exact ⟨A1,n1,c1,⟨h.int a0,h.int a1,h.int a2,h.sl a3 a4,h.int a4,h.int a5,h.int a6,h.int a7⟩,h.is hi,hn⟩
theorem One9.led (h:One9 W W' B cs) {x:Lsl} {l:Led} {B':Nat} (hl:LedIn W B' x l):LedIn W' B' x l:=⟨h.pps hl.p,h.rcs hl.r,h.rts hl.t,h.sgs hl.s⟩
theorem One9.acc (h:One9 W W' B cs) {a:Acc} {M:List ((Int × Int) × Nat)} {R:List Rcp} {P:List (Int × Int)} (ha:AccR W a M R P):AccR W' a M R P:=by
 have hbm:a.bm≠B:=fun e=>by
  obtain ⟨es,k,h1,_⟩:=ha.m.1
  rw [e,show W.heap[B]?=_ from h.box] at h1
  cases h1
 refine ⟨ha.m.keep (h.heap _ hbm),?_,?_,ha.nR,ha.cR,ha.okR,ha.nP,ha.aP,ha.mP⟩
 ·rw [h.size];exact h.rcs ha.r
 ·rw [h.size];exact h.fos ha.p
theorem One9.opn (h:One9 W W' B cs) {a:Acc} {l:Led} {kn:Int} (ha:OpnA W a l kn):OpnA W' a l kn:=by
 refine ⟨h.acc ha.acc,?_,?_,ha.pn,ha.tn,ha.sn,ha.cs⟩
 ·rw [h.size];exact h.sgs ha.sg
 ·rw [h.size];exact h.bls ha.tl
theorem One9.box2 (h:One9 W W' B cs) {b:Nat} {t:TypeId} {c:Array Value} (hb:BoxA W b t c) (hne:b≠B):BoxA W' b t c:=(h.heap b hne).trans hb
end
theorem p_settleEN (l:Led) (kn:Int) (a:Acc) (v:Int) (B:Nat) (W:World) (hl:LedOk l) (h:OpnA W a l kn) (hbox:BoxA W B 115 (accC a)) (hv:setE l kn=v) (h0:¬ v=0) :
 Calls Tryz.prog 73 #[.pointer (some ⟨B,0,none⟩)] W fun e w'=>e=.returned (.int .i64 v)∧Below W.heap.size W w':=by
 have hc:=p_settle (opnL l kn).M (cntR l kn) (opnL l kn).P (cntS l kn) a B _ h.acc (cnt_sgs hl kn) (by have:=h.sn;omega) h.sg hbox
 refine hc.mono fun e w' hr=>?_
 subst hv
 unfold setE at h0 ⊢
 cases hd:dblR (opnL l kn).M (opnL l kn).P (cntR l kn) with
 | some p =>
   rw [hd] at hr
   exact hr
 | none =>
   cases ho:narL (opnL l kn).M (cntR l kn) (cntS l kn) (opnL l kn).P with
   | none =>
     rw [hd,ho] at hr
     exact hr
   | some P' =>
     rw [hd,ho] at h0
     exact absurd rfl h0
theorem p_settleE0 (l:Led) (kn:Int) (a:Acc) (B:Nat) (W:World) (hl:LedOk l) (h:OpnA W a l kn) (hbox:BoxA W B 115 (accC a)) (hv:setE l kn=0) :
 Calls Tryz.prog 73 #[.pointer (some ⟨B,0,none⟩)] W fun e w'=>∃ (w1:World) (A:Option Addr) (c:Nat),e=.returned (.int .i64 0)∧Below W.heap.size W w1∧w'=w1.setCell ⟨B,9,none⟩ (.slice A a.Pn c)∧One9 w1 w' B (accC a)∧BoxA w' B 115 (accC { a with PA:=A,Pc:=c }) ∧
  AccR w' { a with PA:=A,Pc:=c } (opnL l kn).M (cntR l kn) (setP l kn):=by
 have hc:=p_settle (opnL l kn).M (cntR l kn) (opnL l kn).P (cntS l kn) a B _ h.acc (cnt_sgs hl kn) (by have:=h.sn;omega) h.sg hbox
 refine hc.mono fun e w' hr=>?_
 unfold setE at hv
 cases hd:dblR (opnL l kn).M (opnL l kn).P (cntR l kn) with
 | some p=>rw [hd] at hv;cases hv
 | none =>
   cases ho:narL (opnL l kn).M (cntR l kn) (cntS l kn) (opnL l kn).P with
   | none=>rw [hd,ho] at hv;cases hv
   | some P' =>
     rw [hd,ho] at hr
     obtain ⟨rfl,w1,A,c,hb1,ho1,hl1,rfl⟩:=hr
     have hsp:setP l kn=P':=by rw [setP,ho];rfl
     rw [hsp]
     have h9:=One9.of (hbox.ext hb1) ⟨_,_,_,rfl⟩ rfl (.slice A a.Pn c)
     have ho2:(w1.setCell ⟨B,9,none⟩ (.slice A a.Pn c)).ownsRow W.heap.size 133 2 (.slice A a.Pn c) a.Pn (folCells P'):=own_keep ho1 fun b hb9=>Below.heap_setCell _ _ _ _ (fun e=>by
      have h1:=own_le ho1 hb9
      have h2:=hbox.lt
      have e:b=B:=e
      omega)
     have ha:=h9.acc (h.acc.now hb1)
     refine ⟨w1,A,c,rfl,hb1,rfl,h9,(hbox.ext hb1).set 9 _,⟨ha.m,ha.r,sq_of_own ho2 hl1,ha.nR,ha.cR,ha.okR,ha.nP,fun e=>?_,ha.mP⟩⟩
     have e:A=none:=e
     subst e
     rcases ho2.2 with ⟨h1,_⟩ | ⟨g,cap,cur,h1,_⟩
     ·injection h1
     ·cases h1
abbrev zAcc:Array Value:=#[.slice none 0 0,.slice none 0 0,.slice none 0 0,.slice none 0 0,.int .i64 0,.slice none 0 0,.slice none 0 0,.map none,.slice none 0 0,.slice none 0 0]
structure OneZ (W W':World) (B:Nat):Prop where
 box:BoxA W B 115 zAcc
 size:W'.heap.size=W.heap.size
 heap:∀ b,b≠B→W'.heap[b]?=W.heap[b]?
theorem zAcc_int {o:Nat} {v:Int} (h:zAcc[o]?=some (.int .i64 v)):o=4∧v=0:=by
 match o,h with
 | 4,h=>cases h;exact ⟨rfl,rfl⟩
 | 0,h=>cases h
 | 1,h=>cases h
 | 2,h=>cases h
 | 3,h=>cases h
 | 5,h=>cases h
 | 6,h=>cases h
 | 7,h=>cases h
 | 8,h=>cases h
 | 9,h=>cases h
 | n+10,h=>simp at h
theorem zAcc_bool {o:Nat} {v:Bool} (h:zAcc[o]?=some (.bool v)):False:=by
 match o,h with
 | 4,h=>cases h
 | 0,h=>cases h
 | 1,h=>cases h
 | 2,h=>cases h
 | 3,h=>cases h
 | 5,h=>cases h
 | 6,h=>cases h
 | 7,h=>cases h
 | 8,h=>cases h
 | 9,h=>cases h
 | n+10,h=>simp at h
section
variable {W W':World} {B:Nat}
theorem OneZ.cell (h:OneZ W W' B) {b:Nat} (hb:b≠B) (o:Nat):W'.cell? ⟨b,o,none⟩=W.cell? ⟨b,o,none⟩:=by simp [World.cell?,h.heap b hb]
theorem OneZ.two (h:OneZ W W' B) {b o:Nat} {u v:Int} (h0:W.cell? ⟨b,o,none⟩=some (.int .i64 u)) (h1:W.cell? ⟨b,o+1,none⟩=some (.int .i64 v)):b≠B:=fun e=>by
 subst e
 rw [h.box.cell] at h0 h1
 have:=(zAcc_int h0).1
 have:=(zAcc_int h1).1
 omega
theorem OneZ.pos (h:OneZ W W' B) {b o:Nat} {u:Int} (h0:W.cell? ⟨b,o,none⟩=some (.int .i64 u)) (hu:u≠0):b≠B:=fun e=>by
 subst e
 rw [h.box.cell] at h0
 exact hu (zAcc_int h0).2
theorem OneZ.is (h:OneZ W W' B) {B' n:Nat} {A:Option Addr} {xs:List Int} (hi:Is W B' A n xs) (hx:∀ x∈xs,x≠0):Is W' B' A n xs:=by
 refine ⟨hi.1,fun h0=>?_⟩
 obtain ⟨b,o,e,hb,hc⟩:=hi.2 h0
 refine ⟨b,o,e,hb,fun j u hu=>?_⟩
 have h1:=hc j u hu
 rw [List.getElem?_map] at hu
 obtain ⟨x,hx1,rfl⟩:=Option.map_eq_some_iff.1 hu
 rw [h.cell (h.pos h1 (hx x (List.mem_of_getElem? hx1)))]
 exact h1
theorem OneZ.rcs (h:OneZ W W' B) {B' n:Nat} {A:Option Addr} {R:List Rcp} (hr:Rcs W B' A n R) (hp:∀ r∈R,∀ x∈r.lv,x≠0):Rcs W' B' A n R:=by
 refine ⟨hr.1,fun h0=>?_⟩
 obtain ⟨b,o,e,hb,hc⟩:=hr.2 h0
 refine ⟨b,o,e,hb,fun k x hx=>?_⟩
 obtain ⟨A1,n1,c1,⟨a0,a1,a2,a3,a4,a5,a6⟩,hi,hn⟩:=hc k x hx
 have hne:=h.two a0 a1
 exact ⟨A1,n1,c1,⟨(h.cell hne _).trans a0,(h.cell hne _).trans a1,(h.cell hne _).trans a2,(h.cell hne _).trans a3,(h.cell hne _).trans a4,(h.cell hne _).trans a5,(h.cell hne _).trans a6⟩,h.is hi (hp x (List.mem_of_getElem? hx)),hn⟩
theorem OneZ.sgs (h:OneZ W W' B) {B' n:Nat} {A:Option Addr} {S:List Sgt} (hr:Sgs W B' A n S):Sgs W' B' A n S:=by
 refine ⟨hr.1,fun h0=>?_⟩
 obtain ⟨b,o,e,hb,hc⟩:=hr.2 h0
 refine ⟨b,o,e,hb,fun k x hx=>?_⟩
 obtain ⟨a0,a1,a2,a3,a4,a5,a6⟩:=hc k x hx
 have hne:=h.two a0 a1
 exact ⟨(h.cell hne _).trans a0,(h.cell hne _).trans a1,(h.cell hne _).trans a2,(h.cell hne _).trans a3,(h.cell hne _).trans a4,(h.cell hne _).trans a5,(h.cell hne _).trans a6⟩
theorem OneZ.fos (h:OneZ W W' B) {B' n:Nat} {A:Option Addr} {P:List (Int × Int)} (hr:Sq QF 2 W B' A n P):Sq QF 2 W' B' A n P:=by
 refine ⟨hr.1,fun h0=>?_⟩
 obtain ⟨b,o,e,hb,hc⟩:=hr.2 h0
 refine ⟨b,o,e,hb,fun k x hx=>?_⟩
 obtain ⟨a0,a1⟩:=hc k x hx
 have hne:=h.two a0 a1
 exact ⟨(h.cell hne _).trans a0,(h.cell hne _).trans a1⟩
theorem OneZ.bls (h:OneZ W W' B) {B' n:Nat} {A:Option Addr} {T:List Bool} (hr:Sq QB 1 W B' A n T):Sq QB 1 W' B' A n T:=by
 refine ⟨hr.1,fun h0=>?_⟩
 obtain ⟨b,o,e,hb,hc⟩:=hr.2 h0
 refine ⟨b,o,e,hb,fun k x hx=>?_⟩
 have h1:W.cell? ⟨b,o+k*1,none⟩=some (.bool x):=hc k x hx
 have hne:b≠B:=fun e=>by
  subst e
  rw [h.box.cell] at h1
  exact zAcc_bool h1
 exact (h.cell hne _).trans h1
theorem OneZ.opn (h:OneZ W W' B) {a:Acc} {l:Led} {kn:Int} (ha:OpnA W a l kn) (hp:∀ r∈l.rc,∀ x∈r.lv,x≠0):OpnA W' a l kn:=by
 have hbm:a.bm≠B:=fun e=>by
  obtain ⟨es,k,h1,_⟩:=ha.acc.m.1
  rw [e,show W.heap[B]?=_ from h.box] at h1
  cases h1
 have hR:∀ r∈cntR l kn,∀ x∈r.lv,x≠0:=fun r hr=>hp r (List.mem_filter.1 hr).1
 refine ⟨⟨ha.acc.m.keep (h.heap _ hbm),?_,?_,ha.acc.nR,ha.acc.cR,ha.acc.okR,ha.acc.nP,ha.acc.aP,ha.acc.mP⟩,?_,?_,ha.pn,ha.tn,ha.sn,ha.cs⟩
 ·rw [h.size];exact h.rcs ha.acc.r hR
 ·rw [h.size];exact h.fos ha.acc.p
 ·rw [h.size];exact h.sgs ha.sg
 ·rw [h.size];exact h.bls ha.tl
end
theorem led_pos {l:Led} (h:ledB l=true):∀ r∈l.rc,∀ x∈r.lv,x≠0:=by
 rw [ledB_ref] at h
 simp only [Bool.and_eq_true] at h
 intro r hr x hx
 have h1:=val_all h.2.1 r hr
 simp only [rcOk,Rcp.okB,leavesB,Bool.and_eq_true] at h1
 have h2:=val_all h1.1.2.2.2.1.2 x hx
 simp only [leafB,withinB,Bool.and_eq_true,decide_eq_true_eq] at h2
 omega
theorem exc_pos {l:Led} {s:Int} (h:∀ r∈l.rc,∀ x∈r.lv,x≠0):∀ r∈(excL l s).rc,∀ x∈r.lv,x≠0:=fun r hr=>h r (List.mem_filter.1 hr).1
end Go.Proofs.YtmcmbicapdcfmaaGreat
