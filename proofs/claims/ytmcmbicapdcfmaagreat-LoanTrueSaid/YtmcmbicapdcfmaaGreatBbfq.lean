/- Layer 2 of the texts that LoanBack takes: Bbfq. -/
import Derived.Test.YtmcmbicapdcfmaaGreatBbbq
import Derived.Test.YtmcmbicapdcfmaaGreatBbdq
import Derived.Test.YtmcmbicapdcfmaaGreatBbeq
set_option linter.unusedVariables false
set_option linter.unusedSimpArgs false
set_option maxHeartbeats 16000000
namespace Go.Proofs.YtmcmbicapdcfmaaGreat
open Go.RowKit Go.Maps
def refW (P:List (Int × Int)) (day bor:Int):Option Nat→List Int
 | none=>[bor]
 | some k=>if day<(P.getD k (0,0)).1 then [bor] else if (P.getD k (0,0)).2≤day then [0] else [0,bor]
theorem wh_none {l:Led} {kn pap leaf day:Int} (h0:∀ r∈l.rc,0≤r.day) (hL:lastK kn pap leaf day l.rc l.rc.length=none):whL l kn day (pap,leaf)=[0]:=by
 rw [whL,stayP,stayF_last l kn _ _ _ _ h0,hL]
 simp [lastV,whereS]
theorem wh_some {l:Led} {kn pap leaf day:Int} {p:Nat × Int} {r:Rcp} (h0:∀ r∈l.rc,0≤r.day) (hL:lastK kn pap leaf day l.rc l.rc.length=some p) (hr:l.rc[p.1]?=some r):whL l kn day (pap,leaf)=refW (setP l kn) day r.bor (rtIx (tellK l kn l.rt.length) l.rt r.src leaf):=by
 rw [whL,stayP,stayF_last l kn _ _ _ _ h0,hL]
 simp only [lastV,hr,back_rt,opn_tell]
 cases rtIx (tellK l kn l.rt.length) l.rt r.src leaf with
 | none=>simp [ixI,whereS,refW]
 | some k =>
   have h1:¬ ((k:Int)<0):=by omega
   simp [ixI,whereS,refW,h1]
def excL (l:Led) (s:Int):Led:=⟨l.pp,l.rc.filter (fun r=>!(r.src == s)),l.rt.filter (fun r=>!(r.src == s)),l.sg.filter (fun r=>!(r.src == s))⟩
theorem LedOk.exc {l:Led} (h:LedOk l) (s:Int):LedOk (excL l s) :=
 ⟨h.pn,Nat.le_trans (List.length_filter_le _ _) h.rn,Nat.le_trans (List.length_filter_le _ _) h.tn,Nat.le_trans (List.length_filter_le _ _) h.sn,h.pp,fun r hr=>h.rc r (List.mem_filter.1 hr).1,fun r hr=>h.rt r (List.mem_filter.1 hr).1,fun r hr=>h.sg r (List.mem_filter.1 hr).1⟩
def movL (l:Led) (src day kn:Int):List (Int × Int):=(folL l.pp).filter fun f=>!decide (whL l kn day f=whL (excL l src) kn day f)
def movX (l:Led) (src day kn:Int):List (Int × Int) × Int :=
 if preE l [day,kn]=0 then (if src∈srcL l then (if setE l kn=setE (excL l src) kn then (if setE l kn=0 then (movL l src day kn,0) else ([],0)) else (folL l.pp,0)) else ([],3)) else ([],preE l [day,kn])
theorem exc_rv (xs:List Rv) (s:Int):(xs.filter fun v=>!(v.r.src == s)).map Rv.r=(xs.map Rv.r).filter fun r=>!(r.src == s):=by
 rw [List.filter_map]
 rfl
theorem exc_tv (xs:List Tv) (s:Int):(xs.filter fun v=>!(v.r.src == s)).map Tv.r=(xs.map Tv.r).filter fun r=>!(r.src == s):=by
 rw [List.filter_map]
 rfl
theorem p_exc1 (x:Rv) (src:Int) (q:Nat) (w:World) (hq:q<w.heap.size) (hc:w.cell? ⟨q,0,none⟩=some (.int .i64 src)) :
 Calls Tryz.prog 138 #[.agg (rvC x).toArray,.pointer (some ⟨q,0,none⟩)] w fun e w'=>e=.returned (.bool (x.r.src == src))∧Below w.heap.size w w':=by
 go_enter Tryz.func138,Tryz.ntmps138
 go_wp2
 go_ret
 exact ⟨rfl,by exact bel_⟩
theorem p_exc2 (x:Tv) (src:Int) (q:Nat) (w:World) (hq:q<w.heap.size) (hc:w.cell? ⟨q,0,none⟩=some (.int .i64 src)) :
 Calls Tryz.prog 140 #[.agg (tvC x).toArray,.pointer (some ⟨q,0,none⟩)] w fun e w'=>e=.returned (.bool (x.r.src == src))∧Below w.heap.size w w':=by
 go_enter Tryz.func140,Tryz.ntmps140
 go_wp2
 go_ret
 exact ⟨rfl,by exact bel_⟩
theorem p_exc3 (x:Sgt) (src:Int) (q:Nat) (w:World) (hq:q<w.heap.size) (hc:w.cell? ⟨q,0,none⟩=some (.int .i64 src)) :
 Calls Tryz.prog 142 #[.agg (sgC x).toArray,.pointer (some ⟨q,0,none⟩)] w fun e w'=>e=.returned (.bool (x.src == src))∧Below w.heap.size w w':=by
 go_enter Tryz.func142,Tryz.ntmps142
 go_wp2
 go_ret
 exact ⟨rfl,by exact bel_⟩
structure ExS (w W:World) (C:Array Value) (src:Int):Prop where
 hB:Below w.heap.size w W
 bL:BoxA W w.heap.size 32 C
 bS:BoxA W (w.heap.size+1) 3 #[.int .i64 src]
 bZ:BoxA W (w.heap.size+2) 32 #[.slice none 0 0,.slice none 0 0,.slice none 0 0,.slice none 0 0]
theorem ExS.ext {w W W':World} {C:Array Value} {src:Int} (h:ExS w W C src) (hb:Below W.heap.size W W'):ExS w W' C src:=⟨bt_ h.hB hb,h.bL.ext hb,h.bS.ext hb,h.bZ.ext hb⟩
theorem ExS.set {w W:World} {C:Array Value} {src:Int} (h:ExS w W C src) (o:Nat) (u:Value):ExS w (W.setCell ⟨w.heap.size,o,none⟩ u) (C.setIfInBounds o u) src:=⟨h.hB.setCell lr_ _,h.bL.set o u,h.bS.other (by simp) _,h.bZ.other (by simp) _⟩
theorem ExS.setAll {w W:World} {C:Array Value} {src:Int} (h:ExS w W C src) (vs:List Value) (hl:vs.length=C.size):ExS w (W.setCells w.heap.size 0 vs) vs.toArray src:=by
 have hg:=grown_setCells w.heap.size vs 0 W
 exact ⟨h.hB.grown hg h.hB.size (fun b e=>by cases e;exact lr_),h.bL.setAll vs hl,h.bS.kept hg (fun e=>by injection e with e;omega),h.bZ.kept hg (fun e=>by injection e with e;omega)⟩
theorem ExS.grow {w W W':World} {C:Array Value} {src:Int} (h:ExS w W C src) {row:Option Nat} (hg:W.grownBy W' row) (hr:∀ b,row=some b→w.heap.size+3≤b):ExS w W' C src :=
 ⟨h.hB.grown hg h.hB.size fun b hb=>by have:=hr b hb;omega,h.bL.kept hg (fun e=>by have:=hr _ e.symm;omega),h.bS.kept hg (fun e=>by have:=hr _ e.symm;omega),h.bZ.kept hg (fun e=>by have:=hr _ e.symm;omega)⟩
theorem ExS.new (w:World) (C:Array Value) (src:Int):ExS w (((w.alloc (.cells C 32)).alloc (.cells #[.int .i64 src] 3)).alloc (.cells #[.slice none 0 0,.slice none 0 0,.slice none 0 0,.slice none 0 0] 32)) C src:=by
 have h:=box3 w 32 3 32 C #[.int .i64 src] #[.slice none 0 0,.slice none 0 0,.slice none 0 0,.slice none 0 0]
 exact ⟨by exact bel_,h.1,h.2.1,h.2.2⟩
theorem Cop.delR {W W':World} {base:Nat} {y:Lsl} {pp:List Ppr} {rvs rvs':List Rv} {tvs:List Tv} {sg:List Sgt} (h:Cop W base y pp rvs tvs sg) {A:Option Addr} {n c:Nat} (ho:W'.ownsRow base 79 7 (.slice A n c) n (rvs'.flatMap rvC)) (hg:W.grownBy W' (Value.slice y.rA y.rn y.rc).ownBlock) (hs:∀ v∈rvs',v∈rvs):Cop W' base ⟨y.pA,y.pn,y.pc,A,n,c,y.tA,y.tn,y.tc,y.sA,y.sn,y.sc⟩ pp rvs' tvs sg :=
 ⟨own_other h.p h.r ty_ne.1 hg,ho,own_other h.t h.r ty_ne.2.2.2.1.symm hg,own_other h.s h.r ty_ne.2.2.2.2.1.symm hg,fun v hv=>own_other (h.rl v (hs v hv)) h.r ty_ne.2.2.2.2.2.2.2.1 hg,fun v hv=>own_other (h.tl v hv) h.r ty_ne.2.2.2.2.2.2.2.1 hg⟩
theorem Cop.delT {W W':World} {base:Nat} {y:Lsl} {pp:List Ppr} {rvs:List Rv} {tvs tvs':List Tv} {sg:List Sgt} (h:Cop W base y pp rvs tvs sg) {A:Option Addr} {n c:Nat} (ho:W'.ownsRow base 75 8 (.slice A n c) n (tvs'.flatMap tvC)) (hg:W.grownBy W' (Value.slice y.tA y.tn y.tc).ownBlock) (hs:∀ v∈tvs',v∈tvs):Cop W' base ⟨y.pA,y.pn,y.pc,y.rA,y.rn,y.rc,A,n,c,y.sA,y.sn,y.sc⟩ pp rvs tvs' sg :=
 ⟨own_other h.p h.t ty_ne.2.1 hg,own_other h.r h.t ty_ne.2.2.2.1 hg,ho,own_other h.s h.t ty_ne.2.2.2.2.2.1.symm hg,fun v hv=>own_other (h.rl v hv) h.t ty_ne.2.2.2.2.2.2.2.2.1 hg,fun v hv=>own_other (h.tl v (hs v hv)) h.t ty_ne.2.2.2.2.2.2.2.2.1 hg⟩
theorem Cop.putS {W W':World} {base:Nat} {y:Lsl} {pp:List Ppr} {rvs:List Rv} {tvs:List Tv} {sg sg':List Sgt} (h:Cop W base y pp rvs tvs sg) {A:Option Addr} {n c:Nat} (ho:W'.ownsRow base 70 7 (.slice A n c) n (sg'.flatMap sgC)) (hg:W.grownBy W' (Value.slice y.sA y.sn y.sc).ownBlock):Cop W' base ⟨y.pA,y.pn,y.pc,y.rA,y.rn,y.rc,y.tA,y.tn,y.tc,A,n,c⟩ pp rvs tvs sg' :=
 ⟨own_other h.p h.s ty_ne.2.2.1 hg,own_other h.r h.s ty_ne.2.2.2.2.1 hg,own_other h.t h.s ty_ne.2.2.2.2.2.1 hg,ho,fun v hv=>own_other (h.rl v hv) h.s ty_ne.2.2.2.2.2.2.2.2.2 hg,fun v hv=>own_other (h.tl v hv) h.s ty_ne.2.2.2.2.2.2.2.2.2 hg⟩
set_option maxRecDepth 10000 in
theorem p_except (l:Led) (x:Lsl) (src:Int) (w:World) (hl:LedOk l) (hd:LedIn w w.heap.size x l) :
 Calls Tryz.prog 95 #[.agg #[.slice x.pA x.pn x.pc,.slice x.rA x.rn x.rc,.slice x.tA x.tn x.tc,.slice x.sA x.sn x.sc],.int .i64 src] w fun e w'=>∃ y:Lsl,e=.returned (.agg #[.slice y.pA y.pn y.pc,.slice y.rA y.rn y.rc,.slice y.tA y.tn y.tc,.slice y.sA y.sn y.sc])∧Below w.heap.size w w'∧y.fit∧LedIn w' w'.heap.size y (excL l src):=by
 obtain ⟨pA,pn,pc,rA,rn,rc,tA,tn,tc,sA,sn,sc⟩:=x
 show Calls _ _ #[.agg #[.slice pA pn pc,.slice rA rn rc,.slice tA tn tc,.slice sA sn sc],_] _ _
 have HS0:=hd_ (ExS.new w #[.slice pA pn pc,.slice rA rn rc,.slice tA tn tc,.slice sA sn sc] src)
 have HL:=hd_ hl
 have HD:=hd_ hd
 have hmf:∀ (fn:Fn) (first cap:Array Value) (w:World),(Instr.makeFunc fn first cap).run Tryz.prog w=.ok (.func fn first cap) w:=fun _ _ _ _=>rfl
 clear hl hd
 go_enter Tryz.func95,Tryz.ntmps95
 go_wp2_with fail
 refine (p_copied l ⟨pA,pn,pc,rA,rn,rc,tA,tn,tc,sA,sn,sc⟩ _ HL.out (HD.out.now HS0.out.hB)).mono ?_
 rintro e w1 ⟨⟨p1A,p1n,p1c,r1A,r1n,r1c,t1A,t1n,t1c,s1A,s1n,s1c⟩,rvs,tvs,rfl,hb1,hc1,hr1,ht1⟩
 have HS1:=hd_ (HS0.out.ext hb1)
 have HC1:=hd_ (hc1.dn (base':=w.heap.size+3) (by simp))
 have HR1:=hd_ hr1
 have HT1:=hd_ ht1
 have kL1:=HS1.out.bL.cell
 have zL1:=HS1.out.bL.lt
 have fL1:=HS1.out.bL.frozen
 clear hb1 hc1 hr1 ht1
 have hrl:rvs.length≤60:=by have h1:=HL.out.rn;have h2:=congrArg List.length HR1.out;rw [List.length_map] at h2;omega
 have htl:tvs.length≤60:=by have h1:=HL.out.tn;have h2:=congrArg List.length HT1.out;rw [List.length_map] at h2;omega
 have hgl:l.sg.length≤60:=HL.out.sn
 go_wp2_with fail
 obtain ⟨w2,hw2⟩:∃ W,W=((((w1.setCell ⟨w.heap.size,0,none⟩ (.slice p1A p1n p1c)).setCell ⟨w.heap.size,1,none⟩ (.slice r1A r1n r1c)).setCell ⟨w.heap.size,2,none⟩ (.slice t1A t1n t1c)).setCell ⟨w.heap.size,3,none⟩ (.slice s1A s1n s1c)):=⟨_,rfl⟩
 rw [← hw2]
 have HS2:Hid (ExS w w2 #[.slice p1A p1n p1c,.slice r1A r1n r1c,.slice t1A t1n t1c,.slice s1A s1n s1c] src):=by show ExS _ _ _ _;rw [hw2];exact HS1.out.setAll [.slice p1A p1n p1c,.slice r1A r1n r1c,.slice t1A t1n t1c,.slice s1A s1n s1c] rfl
 have HC2:Hid (Cop w2 (w.heap.size+3) ⟨p1A,p1n,p1c,r1A,r1n,r1c,t1A,t1n,t1c,s1A,s1n,s1c⟩ l.pp rvs tvs l.sg):=by show Cop _ _ _ _ _ _ _;rw [hw2];exact HC1.out.kept HS1.out.bL (grown_setCells w.heap.size [.slice p1A p1n p1c,.slice r1A r1n r1c,.slice t1A t1n t1c,.slice s1A s1n s1c] 0 w1)
 clear hw2 kL1 zL1 fL1 HS1 HC1
 refine (l_deleteRcp rvs (fun v=>v.r.src == src) (w.heap.size+1) (w.heap.size+3) (.slice r1A r1n r1c) r1n w2 (by have h9:rvs.length=r1n:=own_len HC2.out.r (fun _=>rfl) (by omega);omega) (own_len HC2.out.r (fun _=>rfl) (by omega)) HC2.out.r (by have:=HS2.out.bZ.lt;omega) (fun W hg v hv=>?_)).mono ?_
 ·have bS:=HS2.out.bS.kept hg (own_ne HC2.out.r HS2.out.bS (by decide))
  exact p_exc1 v src _ W bS.lt (bS.cell 0)
 rintro e w3 ⟨v3,rfl,ho3,hg3,_⟩
 obtain ⟨x3,hx3⟩:∃ z,(rvs.filter fun v=>!(v.r.src == src))=z:=⟨_,rfl⟩
 rw [hx3] at ho3
 obtain ⟨n3,hn3⟩:∃ n,x3.length=n:=⟨_,rfl⟩
 rw [hn3] at ho3
 obtain ⟨A3,c3,rfl,hcc3⟩:=own_slice ho3
 have HX3:=hd_ hx3
 have HS3:=hd_ (HS2.out.grow hg3 (fun b hb=>own_le HC2.out.r hb))
 have HC3:=hd_ (HC2.out.delR ho3 hg3 (fun v hv=>(List.mem_filter.1 (HX3.out ▸ hv)).1))
 have kL3:=HS3.out.bL.cell
 have zL3:=HS3.out.bL.lt
 have fL3:=HS3.out.bL.frozen
 clear ho3 hg3 hx3 hn3
 go_wp2_with fail
 obtain ⟨w4,hw4⟩:∃ W,W=w3.setCell ⟨w.heap.size,1,none⟩ (.slice A3 n3 c3):=⟨_,rfl⟩
 rw [← hw4]
 have HS4:Hid (ExS w w4 #[.slice p1A p1n p1c,.slice A3 n3 c3,.slice t1A t1n t1c,.slice s1A s1n s1c] src):=by show ExS _ _ _ _;rw [hw4];exact HS3.out.set 1 _
 have HC4:=hd_ (HC3.out.kept HS3.out.bL (grown_setCell w3 w.heap.size 1 (.slice A3 n3 c3)))
 rw [← hw4] at HC4
 clear hw4 kL3 zL3 fL3 HS3 HC3
 refine (l_deleteRtn tvs (fun v=>v.r.src == src) (w.heap.size+1) (w.heap.size+3) (.slice t1A t1n t1c) t1n w4 (by have h9:tvs.length=t1n:=own_len HC4.out.t (fun _=>rfl) (by omega);omega) (own_len HC4.out.t (fun _=>rfl) (by omega)) HC4.out.t (by have:=HS4.out.bZ.lt;omega) (fun W hg v hv=>?_)).mono ?_
 ·have bS:=HS4.out.bS.kept hg (own_ne HC4.out.t HS4.out.bS (by decide))
  exact p_exc2 v src _ W bS.lt (bS.cell 0)
 rintro e w5 ⟨v5,rfl,ho5,hg5,_⟩
 obtain ⟨x5,hx5⟩:∃ z,(tvs.filter fun v=>!(v.r.src == src))=z:=⟨_,rfl⟩
 rw [hx5] at ho5
 obtain ⟨n5,hn5⟩:∃ n,x5.length=n:=⟨_,rfl⟩
 rw [hn5] at ho5
 obtain ⟨A5,c5,rfl,hcc5⟩:=own_slice ho5
 have HX5:=hd_ hx5
 have HS5:=hd_ (HS4.out.grow hg5 (fun b hb=>own_le HC4.out.t hb))
 have HC5:=hd_ (HC4.out.delT ho5 hg5 (fun v hv=>(List.mem_filter.1 (HX5.out ▸ hv)).1))
 have kL5:=HS5.out.bL.cell
 have zL5:=HS5.out.bL.lt
 have fL5:=HS5.out.bL.frozen
 clear ho5 hg5 hx5 hn5
 go_wp2_with fail
 obtain ⟨w6,hw6⟩:∃ W,W=w5.setCell ⟨w.heap.size,2,none⟩ (.slice A5 n5 c5):=⟨_,rfl⟩
 rw [← hw6]
 have HS6:Hid (ExS w w6 #[.slice p1A p1n p1c,.slice A3 n3 c3,.slice A5 n5 c5,.slice s1A s1n s1c] src):=by show ExS _ _ _ _;rw [hw6];exact HS5.out.set 2 _
 have HC6:=hd_ (HC5.out.kept HS5.out.bL (grown_setCell w5 w.heap.size 2 (.slice A5 n5 c5)))
 rw [← hw6] at HC6
 clear hw6 kL5 zL5 fL5 HS5 HC5
 refine (l_deleteSgt l.sg (fun v=>v.src == src) (w.heap.size+1) (w.heap.size+3) (.slice s1A s1n s1c) s1n w6 (by have h9:l.sg.length=s1n:=own_len HC6.out.s (fun _=>rfl) (by omega);omega) (own_len HC6.out.s (fun _=>rfl) (by omega)) HC6.out.s (by have:=HS6.out.bZ.lt;omega) (fun W hg v hv=>?_)).mono ?_
 ·have bS:=HS6.out.bS.kept hg (own_ne HC6.out.s HS6.out.bS (by decide))
  exact p_exc3 v src _ W bS.lt (bS.cell 0)
 rintro e w7 ⟨v7,rfl,ho7,hg7,_⟩
 obtain ⟨x7,hx7⟩:∃ z,(l.sg.filter fun v=>!(v.src == src))=z:=⟨_,rfl⟩
 rw [hx7] at ho7
 obtain ⟨n7,hn7⟩:∃ n,x7.length=n:=⟨_,rfl⟩
 rw [hn7] at ho7
 obtain ⟨A7,c7,rfl,hcc7⟩:=own_slice ho7
 have HX7:=hd_ hx7
 have HS7:=hd_ (HS6.out.grow hg7 (fun b hb=>own_le HC6.out.s hb))
 have HC7:=hd_ (HC6.out.putS ho7 hg7 )
 have kL7:=HS7.out.bL.cell
 have zL7:=HS7.out.bL.lt
 have fL7:=HS7.out.bL.frozen
 have kZ7:=HS7.out.bZ.cell
 have zZ7:=HS7.out.bZ.lt
 have fZ7:=HS7.out.bZ.frozen
 clear ho7 hg7 hx7 hn7
 go_wp2
 have HS8:=hd_ (HS7.out.set 3 (.slice A7 n7 c7))
 have HC8:=hd_ (HC7.out.kept HS7.out.bL (grown_setCell w7 w.heap.size 3 (.slice A7 n7 c7)))
 obtain ⟨W2,hW2⟩:∃ W2,W2=(w7.setCell ⟨w.heap.size,3,none⟩ (.slice A7 n7 c7)).setCells (w.heap.size+2) 0 [.slice p1A p1n p1c,.slice A3 n3 c3,.slice A5 n5 c5,.slice A7 n7 c7]:=⟨_,rfl⟩
 have bZ2:BoxA W2 (w.heap.size+2) 32 #[.slice p1A p1n p1c,.slice A3 n3 c3,.slice A5 n5 c5,.slice A7 n7 c7]:=by rw [hW2];exact HS8.out.bZ.setAll [.slice p1A p1n p1c,.slice A3 n3 c3,.slice A5 n5 c5,.slice A7 n7 c7] rfl
 have hB2:Below w.heap.size w W2:=by rw [hW2];exact HS8.out.hB.grown (grown_setCells _ _ _ _) HS8.out.hB.size (fun b e=>by cases e;omega)
 have HC9:Hid (Cop W2 (w.heap.size+3) ⟨p1A,p1n,p1c,A3,n3,c3,A5,n5,c5,A7,n7,c7⟩ l.pp x3 x5 x7):=by show Cop _ _ _ _ _ _ _;rw [hW2];exact HC8.out.kept HS8.out.bZ (grown_setCells _ _ _ _)
 have kz2:=bZ2.cell
 have zz2:=bZ2.lt
 have HW2:=hd_ hW2
 clear hW2 kL7 zL7 fL7 kZ7 zZ7 fZ7
 refine bodyPost_w (W2:=W2) (by rw [HW2.out];rfl) ?_
 refine bodyPost_ret (v:=.agg #[.slice p1A p1n p1c,.slice A3 n3 c3,.slice A5 n5 c5,.slice A7 n7 c7]) ?_ rfl ?_
 ·(simp [results,Tryz.f95,go_sem];try go_simp)
 ·have hex:excL l src=⟨l.pp,x3.map Rv.r,x5.map Tv.r,x7⟩:=by
   rw [excL,← HR1.out,← HT1.out,← HX3.out,← HX5.out,← HX7.out,exc_rv,exc_tv]
  exact ⟨⟨p1A,p1n,p1c,A3,n3,c3,A5,n5,c5,A7,n7,c7⟩,rfl,hB2,HC9.out.fit,by rw [hex];exact HC9.out.led⟩
end Go.Proofs.YtmcmbicapdcfmaaGreat
