/- Layer 2 of the texts that LoanWheres takes: Ubiq. -/
import Derived.Test.YtoiompoapikkbaaGreatUbgq
set_option linter.unusedVariables false
set_option linter.unusedSimpArgs false
/- Layer 2: the closure of Moved. -/
namespace Go.Proofs.YtoiompoapikkbaaGreat
open Go.RowKit Go.Maps
def S4 (b1 b2 b3 b4:Nat) (c1 c2 c3 c4:Array Value) (V:World):Prop:=(∀ o,V.cell? ⟨b1,o,none⟩=c1[o]?)∧(∀ o,V.cell? ⟨b2,o,none⟩=c2[o]?)∧(∀ o,V.cell? ⟨b3,o,none⟩=c3[o]?)∧(∀ o,V.cell? ⟨b4,o,none⟩=c4[o]?)∧b1<V.heap.size∧b2<V.heap.size∧b3<V.heap.size∧b4<V.heap.size
theorem S4.ext {b1 b2 b3 b4:Nat} {c1 c2 c3 c4:Array Value} {V V':World} (hb:Below V.heap.size V V') (h:S4 b1 b2 b3 b4 c1 c2 c3 c4 V):S4 b1 b2 b3 b4 c1 c2 c3 c4 V':=by
 obtain ⟨h1,h2,h3,h4,z1,z2,z3,z4⟩:=h
 have hs:=hb.size
 exact ⟨fun o=>(hb.cell (p:=⟨b1,o,none⟩) z1).trans (h1 o),fun o=>(hb.cell (p:=⟨b2,o,none⟩) z2).trans (h2 o),fun o=>(hb.cell (p:=⟨b3,o,none⟩) z3).trans (h3 o),fun o=>(hb.cell (p:=⟨b4,o,none⟩) z4).trans (h4 o),by omega,by omega,by omega,by omega⟩
set_option maxRecDepth 10000 in
set_option maxHeartbeats 4000000 in
theorem p_moved1 (M1 M2:List ((Int × Int) × Nat)) (R1 R2:List Rcp) (P1 P2:List (Int × Int)) (a1 a2:Acc) (f:Int × Int) (day:Int) (q1 qd q2:Nat) (w:World) (h1:AccR w a1 M1 R1 P1) (h2:AccR w a2 M2 R2 P2) (hwl:(Lit.int .i64 f.2).wf=true)
 (b1:BoxA w q1 119 (accC a1)) (b2:BoxA w q2 119 (accC a2)) (bd:BoxA w qd 3 #[.int .i64 day]) :
 Calls Tryz.prog 140 #[.agg (foC f).toArray,.pointer (some ⟨q1,0,none⟩),.pointer (some ⟨qd,0,none⟩),.pointer (some ⟨q2,0,none⟩)] w fun e w'=>e=.returned (.bool (decide (whereS (stayP M1 R1 f.1 f.2 day) P1 day=whereS (stayP M2 R2 f.1 f.2 day) P2 day)))∧Below w.heap.size w w':=by
 have len2:∀ (st:Int × Int) (P:List (Int × Int)),(whereS st P day).length≤2:=fun st P=>by
  unfold whereS
  split
  ·simp
  ·split <;> simp
 obtain ⟨q,hq⟩:∃ q,decide (whereS (stayP M1 R1 f.1 f.2 day) P1 day=whereS (stayP M2 R2 f.1 f.2 day) P2 day)=q:=⟨_,rfl⟩
 rw [hq]
 have HQ:=Lib.hid hq
 have HL1:=Lib.hid (len2 (stayP M1 R1 f.1 f.2 day) P1)
 have HL2:=Lib.hid (len2 (stayP M2 R2 f.1 f.2 day) P2)
 have HA1:Hid (∀ W,Below w.heap.size w W→Calls Tryz.prog 122 #[.agg (accC a1),.agg #[.int .i64 f.1,.int .i64 f.2],.int .i64 day] W (RetO (whereS (stayP M1 R1 f.1 f.2 day) P1 day) W)):=by
  show ∀ _,_
  exact fun W hW=>p_where M1 R1 P1 a1 f.1 f.2 day W (h1.now hW) hwl
 have HA2:Hid (∀ W,Below w.heap.size w W→Calls Tryz.prog 122 #[.agg (accC a2),.agg #[.int .i64 f.1,.int .i64 f.2],.int .i64 day] W (RetO (whereS (stayP M2 R2 f.1 f.2 day) P2 day) W)):=by
  show ∀ _,_
  exact fun W hW=>p_where M2 R2 P2 a2 f.1 f.2 day W (h2.now hW) hwl
 obtain ⟨L1,hL1⟩:∃ L,whereS (stayP M1 R1 f.1 f.2 day) P1 day=L:=⟨_,rfl⟩
 obtain ⟨L2,hL2⟩:∃ L,whereS (stayP M2 R2 f.1 f.2 day) P2 day=L:=⟨_,rfl⟩
 rw [hL1] at HA1 HQ HL1
 rw [hL2] at HA2 HQ HL2
 clear hq hL1 hL2 len2 h1 h2
 obtain ⟨⟨pA,pn,pc,rA,rn,rc,tA,tn,tc,sA,sn,sc⟩,kn,RA,Rn,Rc,SA,Sn,Sc,bm,TA,Tn,Tc,PA,Pn,Pc⟩:=a1
 obtain ⟨⟨pA',pn',pc',rA',rn',rc',tA',tn',tc',sA',sn',sc'⟩,kn',RA',Rn',Rc',SA',Sn',Sc',bm',TA',Tn',Tc',PA',Pn',Pc'⟩:=a2
 have hB0:Below w.heap.size w (w.alloc (.cells #[.int .i64 f.1,.int .i64 f.2] 60)):=by exact bel_
 have c1:=(b1.alloc (.cells #[.int .i64 f.1,.int .i64 f.2] 60))
 have c2:=(b2.alloc (.cells #[.int .i64 f.1,.int .i64 f.2] 60))
 have cd:=(bd.alloc (.cells #[.int .i64 f.1,.int .i64 f.2] 60))
 have cf:=BoxA.new w 60 #[.int .i64 f.1,.int .i64 f.2]
 have hS0:S4 q1 q2 qd w.heap.size #[.slice pA pn pc,.slice rA rn rc,.slice tA tn tc,.slice sA sn sc,.int .i64 kn,.slice RA Rn Rc,.slice SA Sn Sc,.map (some bm),.slice TA Tn Tc,.slice PA Pn Pc] #[.slice pA' pn' pc',.slice rA' rn' rc',.slice tA' tn' tc',.slice sA' sn' sc',.int .i64 kn',.slice RA' Rn' Rc',.slice SA' Sn' Sc',.map (some bm'),.slice TA' Tn' Tc',.slice PA' Pn' Pc'] #[.int .i64 day] #[.int .i64 f.1,.int .i64 f.2] (w.alloc (.cells #[.int .i64 f.1,.int .i64 f.2] 60)):=⟨c1.cell,c2.cell,cd.cell,cf.cell,c1.lt,c2.lt,cd.lt,cf.lt⟩
 have HS0:=Lib.hid hS0
 clear c1 c2 cd cf hS0 b1 b2 bd
 go_enter Tryz.func140,Tryz.ntmps140
 go_wp2
 refine wp_named2 fun f1 V1 hf1 hV1=>?_
 have hS1:=HS0.out
 rw [hV1] at hB0 hS1
 clear hV1
 refine wp_cut2 (fun a' W'=>IsFr2 (fun u=>{ tmps:=#[u 0,u 1,u 2,u 3,u 4,.bool q,u 6,u 7,u 8,u 9,u 10,u 11,u 12,u 13,u 14],defers:=[] }) a'∧Below w.heap.size w W') ?reg ?rest
 case reg =>
  subst hf1
  have HC:Below w.heap.size w V1.drew:=hB0.drew
  (refine wp_region_sink_lit (S:=S4 q1 q2 qd w.heap.size #[.slice pA pn pc,.slice rA rn rc,.slice tA tn tc,.slice sA sn sc,.int .i64 kn,.slice RA Rn Rc,.slice SA Sn Sc,.map (some bm),.slice TA Tn Tc,.slice PA Pn Pc] #[.slice pA' pn' pc',.slice rA' rn' rc',.slice tA' tn' tc',.slice sA' sn' sc',.int .i64 kn',.slice RA' Rn' Rc',.slice SA' Sn' Sc',.map (some bm'),.slice TA' Tn' Tc',.slice PA' Pn' Pc'] #[.int .i64 day] #[.int .i64 f.1,.int .i64 f.2]) 9 (by kernel_rfl) rfl rfl (by kernel_rfl) (by kernel_rfl) hS1 (fun hS=>?_);simp only [List.take_succ_cons,List.take_zero,List.reduceReplicate,Array.replicate_succ,Array.replicate_zero])
  (refine tk_ (i:=0) (v:=?_) rfl ?_ hS ?_ (fun _ _ _ h=>h);rotate_left;focus (intro w2 hw2;(try dsimp only at hw2);(try unfold S4 at hw2);go_split_ands;go_simp;first | done | with_reducible rfl);(try simp only [Act.put,pu1,pu2,pu3]))
  (refine tk_ (i:=1) (v:=?_) rfl ?_ hS ?_ (fun _ _ _ h=>h);rotate_left;focus (intro w2 hw2;(try dsimp only at hw2);(try unfold S4 at hw2);go_split_ands;go_simp;first | done | with_reducible rfl);(try simp only [Act.put,pu1,pu2,pu3]))
  (refine tk_ (i:=2) (v:=?_) rfl ?_ hS ?_ (fun _ _ _ h=>h);rotate_left;focus (intro w2 hw2;(try dsimp only at hw2);(try unfold S4 at hw2);go_split_ands;go_simp;first | done | with_reducible rfl);(try simp only [Act.put,pu1,pu2,pu3]))
  (refine tk_ (i:=4) (v:=?_) rfl ?_ hS ?_ (fun _ _ _ h=>h);rotate_left;focus (intro w2 hw2;(try dsimp only at hw2);(try unfold S4 at hw2);go_split_ands;go_simp;first | done | with_reducible rfl);(try simp only [Act.put,pu1,pu2,pu3]))
  (refine tk_ (i:=5) (v:=?_) rfl ?_ hS ?_ (fun _ _ _ h=>h);rotate_left;focus (intro w2 hw2;(try dsimp only at hw2);(try unfold S4 at hw2);go_split_ands;go_simp;first | done | with_reducible rfl);(try simp only [Act.put,pu1,pu2,pu3]))
  (refine tk_ (i:=6) (v:=?_) rfl ?_ hS ?_ (fun _ _ _ h=>h);rotate_left;focus (intro w2 hw2;(try dsimp only at hw2);(try unfold S4 at hw2);go_split_ands;go_simp;first | done | with_reducible rfl);(try simp only [Act.put,pu1,pu2,pu3]))
  refine rd_ [3] ?_
  refine ah1 rfl fun K hK=>?_
  (go_simp;go_at_call 122;refine (HA1.out _ HC).mono ?_;rintro e w2 ⟨v2,rfl,hb2,ho2⟩;obtain ⟨A2,c2,rfl,hc2⟩:=own_slice ho2;go_simp)
  have HC2:=Below.then_ HC hb2
  refine hK.out _ _ (S4.ext hb2 hS) (fun hS=>?_)
  clear hK K
  (try simp only [Act.put,pu1,pu2,pu3])
  refine rd_ [7] ?_
  refine ah1 rfl fun K hK=>?_
  (go_simp;go_at_call 122;refine (HA2.out _ HC2).mono ?_;rintro e w3 ⟨v3,rfl,hb3,ho3⟩;obtain ⟨A3,c3,rfl,hc3⟩:=own_slice ho3;go_simp)
  have HC3:=Below.then_ HC2 hb3
  have hI2:=(Is.now (show Is w2 w2.heap.size A2 L1.length L1 from Rd.of_own ho2) hb3)
  have hI3:Is w3 w3.heap.size A3 L2.length L2:=Rd.of_own ho3
  refine hK.out _ _ (S4.ext hb3 hS) (fun hS=>?_)
  clear hK K
  (try simp only [Act.put,pu1,pu2,pu3])
  refine rd_ [8] ?_
  refine ah1 rfl fun K hK=>?_
  (go_simp;go_at_call 141;refine (l_equal L1 L2 q A2 A3 L1.length c2 L2.length c3 w3 (by have:=HL1.out;omega) (by have:=HL2.out;omega) hI2 hI3 HQ.out).mono ?_;rintro e w4 ⟨rfl,hb4⟩;go_simp)
  have HC4:=Below.then_ HC3 hb4
  refine hK.out _ _ (S4.ext hb4 hS) (fun hS=>?_)
  clear hK K
  (try simp only [Act.put,pu1,pu2,pu3])
  refine wpAnyH_done (by kernel_rfl) ?_ _
  simp only [sinkQ]
  go_simp
  exact ⟨IsFr2.of rfl,HC4⟩
 case rest =>
  rintro a' W' ⟨⟨u,rfl⟩,HB⟩
  go_wp2
  go_ret
  exact ⟨rfl,HB⟩
end Go.Proofs.YtoiompoapikkbaaGreat
/- Layer 2: a ledger that is copied: rows of the call's own. -/
namespace Go.Proofs.YtoiompoapikkbaaGreat
open Go.RowKit Go.Maps
theorem wp_region_held_lit {P:Program} {Q:Exit→Act→World→Prop} {S:World→Prop} {id:Nat} {a:Act} {w:World} {l:List Oper} (n:Nat) (hm:P.follows .mixedOrders=true) (hn:l.length=n)
 (hS:S w.drew) (h:S w.drew→wpAnyH P .any l.toArray Q S n (Array.replicate n false) a w.drew):(Code.region id l.toArray true).wp P Q a w :=
 wp_region_held_drew hm hS (fun hS=>by subst hn;simpa using h hS)
theorem S1.grown {b1 b2 B:Nat} {c1 c2:Array Value} {V V':World} (hg:V.grownBy V' (some B)) (h:S1 b1 b2 c1 c2 V) (n1:b1≠B) (n2:b2≠B):S1 b1 b2 c1 c2 V':=by
 obtain ⟨h1,h2,z1,z2⟩:=h
 have e1:=hg.block b1 z1 (fun e=>n1 (by injection e))
 have e2:=hg.block b2 z2 (fun e=>n2 (by injection e))
 have hs:=hg.size
 refine ⟨fun o=>?_,fun o=>?_,by omega,by omega⟩
 ·rw [← h1 o];simp [World.cell?,e1]
 ·rw [← h2 o];simp [World.cell?,e2]
theorem own_other {w w':World} {base base' size size' n n':Nat} {e e':TypeId} {v v':Value} {xs xs':List Value} (h:w.ownsRow base e size v n xs) (h':w.ownsRow base' e' size' v' n' xs') (he:e≠e') (hg:w.grownBy w' v'.ownBlock):w'.ownsRow base e size v n xs:=h.kept hg (by
 cases hb:v.ownBlock with
 | none=>exact .inl rfl
 | some b =>
   refine .inr fun e1=>?_
   obtain ⟨c1,h1⟩:=own_block h hb
   obtain ⟨c2,h2⟩:=own_block h' e1.symm
   rw [h1] at h2
   injection h2 with h2
   injection h2 with _ h3
   exact he h3)
abbrev ppC (p:Ppr):List Value:=[.int .i64 p.id,.int .i64 p.lv]
theorem sq_pp {w:World} {B n:Nat} {A:Option Addr} {xs:List Ppr} (h:Rd w B 2 A n (xs.flatMap ppC)) (hn:xs.length=n):Pps w B A n xs:=by
 refine ⟨hn,fun h0=>?_⟩
 obtain ⟨b,o,e,hb,hc⟩:=h.2 h0
 refine ⟨b,o,e,hb,fun k v hk=>?_⟩
 have g:∀ j u,j<2→(ppC v)[j]?=some u→w.cell? ⟨b,o+k*2+j,none⟩=some u:=fun j u hj hu=>by
  have:=hc (k*2+j) u (by rw [← hu];exact flat_get ppC 2 (fun _=>rfl) xs k j v hk hj)
  rwa [← Nat.add_assoc] at this
 exact ⟨g 0 _ (by omega) rfl,g 1 _ (by omega) rfl⟩
theorem rcs_of {w:World} {B n:Nat} {A:Option Addr} {xs:List Rv} (h:Sq QV 7 w B A n xs):Rcs w B A n (xs.map Rv.r):=by
 refine ⟨by rw [List.length_map];exact h.1,fun h0=>?_⟩
 obtain ⟨b,o,e,hb,hc⟩:=h.2 h0
 refine ⟨b,o,e,hb,fun k r hk=>?_⟩
 rw [List.getElem?_map] at hk
 obtain ⟨v,hv,rfl⟩:=Option.map_eq_some_iff.1 hk
 obtain ⟨h1,h2⟩:=hc k v hv
 exact ⟨v.A,v.n,v.c,h1,h2⟩
theorem rts_of {w:World} {B n:Nat} {A:Option Addr} {xs:List Tv} (h:Rd w B 8 A n (xs.flatMap tvC)) (hn:xs.length=n) (hv:∀ v∈xs,Is w B v.A v.n v.r.lv∧v.n≤v.c∧v.c≤maxLen):Rts w B A n (xs.map Tv.r):=by
 refine ⟨by rw [List.length_map];exact hn,fun h0=>?_⟩
 obtain ⟨b,o,e,hb,hc⟩:=h.2 h0
 refine ⟨b,o,e,hb,fun k r hk=>?_⟩
 rw [List.getElem?_map] at hk
 obtain ⟨v,hv2,rfl⟩:=Option.map_eq_some_iff.1 hk
 have g:∀ j u,j<8→(tvC v)[j]?=some u→w.cell? ⟨b,o+k*8+j,none⟩=some u:=fun j u hj hu=>by
  have:=hc (k*8+j) u (by rw [← hu];exact flat_get tvC 8 (fun _=>rfl) xs k j v hv2 hj)
  rwa [← Nat.add_assoc] at this
 exact ⟨v.A,v.n,v.c,⟨g 0 _ (by omega) rfl,g 1 _ (by omega) rfl,g 2 _ (by omega) rfl,g 3 _ (by omega) rfl,g 4 _ (by omega) rfl,g 5 _ (by omega) rfl,g 6 _ (by omega) rfl,g 7 _ (by omega) rfl⟩,hv v (List.mem_of_getElem? hv2)⟩
theorem rd_rv {w:World} {B n:Nat} {A:Option Addr} {xs:List Rv} (h:Sq QV 7 w B A n xs):Rd w B 7 A n (xs.flatMap rvC):=by
 by_cases h0:0<n
 ·obtain ⟨b,o,e,hb,hc⟩:=h.2 h0
  subst e
  refine rd_flat rvC 7 (fun _=>rfl) (by omega) h.1 hb fun k x hx m u hm hu=>?_
  obtain ⟨⟨a0,a1,a2,a3,a4,a5,a6⟩,_⟩:=hc k x hx
  match m,hm,hu with
  | 0,_,hu=>cases hu;exact a0
  | 1,_,hu=>cases hu;exact a1
  | 2,_,hu=>cases hu;exact a2
  | 3,_,hu=>cases hu;exact a3
  | 4,_,hu=>cases hu;exact a4
  | 5,_,hu=>cases hu;exact a5
  | 6,_,hu=>cases hu;exact a6
 ·have hn:n=0:=by omega
  subst hn
  have hx:xs=[]:=List.eq_nil_of_length_eq_zero h.1
  subst hx
  exact ⟨rfl,fun h=>absurd h (by omega)⟩
theorem rd_pp {w:World} {B n:Nat} {A:Option Addr} {xs:List Ppr} (h:Pps w B A n xs):Rd w B 2 A n (xs.flatMap ppC):=by
 by_cases h0:0<n
 ·obtain ⟨b,o,e,hb,hc⟩:=h.2 h0
  subst e
  refine rd_flat ppC 2 (fun _=>rfl) (by omega) h.1 hb fun k x hx m u hm hu=>?_
  obtain ⟨a0,a1⟩:=hc k x hx
  match m,hm,hu with
  | 0,_,hu=>cases hu;exact a0
  | 1,_,hu=>cases hu;exact a1
 ·have hn:n=0:=by omega
  subst hn
  have hx:xs=[]:=List.eq_nil_of_length_eq_zero h.1
  subst hx
  exact ⟨rfl,fun h=>absurd h (by omega)⟩
theorem rd_sg {w:World} {B n:Nat} {A:Option Addr} {xs:List Sgt} (h:Sgs w B A n xs):Rd w B 7 A n (xs.flatMap sgC):=by
 by_cases h0:0<n
 ·obtain ⟨b,o,e,hb,hc⟩:=h.2 h0
  subst e
  refine rd_flat sgC 7 (fun _=>rfl) (by omega) h.1 hb fun k x hx m u hm hu=>?_
  obtain ⟨a0,a1,a2,a3,a4,a5,a6⟩:=hc k x hx
  match m,hm,hu with
  | 0,_,hu=>cases hu;exact a0
  | 1,_,hu=>cases hu;exact a1
  | 2,_,hu=>cases hu;exact a2
  | 3,_,hu=>cases hu;exact a3
  | 4,_,hu=>cases hu;exact a4
  | 5,_,hu=>cases hu;exact a5
  | 6,_,hu=>cases hu;exact a6
 ·have hn:n=0:=by omega
  subst hn
  have hx:xs=[]:=List.eq_nil_of_length_eq_zero h.1
  subst hx
  exact ⟨rfl,fun h=>absurd h (by omega)⟩
theorem flat_ones {α:Type} {f:α→List Value} (h:∀ x,∀ u∈f x,u.oneCell'=true) (xs:List α):∀ u∈xs.flatMap f,u.oneCell'=true:=by
 intro u hu
 obtain ⟨x,_,hx⟩:=List.mem_flatMap.1 hu
 exact h x u hx
theorem flat_set {α:Type} (f:α→List Value) (s:Nat) (hs:∀ x,(f x).length=s):∀ (xs:List α) (k j:Nat) (x:α) (u:Value),k<xs.length→j<s→xs[k]?.map (fun y=>(f y).set j u)=some (f x)→(xs.flatMap f).set (k*s+j) u=(xs.set k x).flatMap f
 | [],k,j,x,u,hk,_,_=>by simp at hk
 | y :: xs,0,j,x,u,_,hj,h=>by
   simp at h
   rw [List.set_cons_zero,List.flatMap_cons,List.flatMap_cons,Nat.zero_mul,Nat.zero_add,List.set_append_left _ _ (by rw [hs];exact hj),h]
 | y :: xs,k+1,j,x,u,hk,hj,h=>by
   have e:(k+1)*s+j - s=k*s+j:=by rw [Nat.succ_mul];omega
   rw [List.set_cons_succ,List.flatMap_cons,List.flatMap_cons,List.set_append_right _ _ (by rw [hs,Nat.succ_mul];omega),hs,e,flat_set f s hs xs k j x u (by simpa using hk) hj (by simpa using h)]
structure Cop (W:World) (base:Nat) (y:Lsl) (pp:List Ppr) (rvs:List Rv) (tvs:List Tv) (sg:List Sgt):Prop where
 p:W.ownsRow base 29 2 (.slice y.pA y.pn y.pc) y.pn (pp.flatMap ppC)
 r:W.ownsRow base 32 7 (.slice y.rA y.rn y.rc) y.rn (rvs.flatMap rvC)
 t:W.ownsRow base 36 8 (.slice y.tA y.tn y.tc) y.tn (tvs.flatMap tvC)
 s:W.ownsRow base 38 7 (.slice y.sA y.sn y.sc) y.sn (sg.flatMap sgC)
 rl:∀ v∈rvs,W.ownsRow base 3 1 (.slice v.A v.n v.c) v.n (intL v.r.lv)
 tl:∀ v∈tvs,W.ownsRow base 3 1 (.slice v.A v.n v.c) v.n (intL v.r.lv)
theorem own_len {W:World} {base n s:Nat} {t:TypeId} {v:Value} {α:Type} {f:α→List Value} {xs:List α} (h:W.ownsRow base t s v n (xs.flatMap f)) (hs:∀ x,(f x).length=s) (h0:0<s):xs.length=n:=by
 have h1:=h.1
 rw [flat_len f s hs] at h1
 exact Nat.eq_of_mul_eq_mul_right h0 h1
theorem own_fit {W:World} {base n s c:Nat} {t:TypeId} {A:Option Addr} {xs:List Value} (h:W.ownsRow base t s (.slice A n c) n xs):n≤c∧c≤maxLen:=by
 obtain ⟨A',c',e,h1⟩:=own_slice h
 cases e
 exact h1
theorem Cop.fit {W:World} {base:Nat} {y:Lsl} {pp:List Ppr} {rvs:List Rv} {tvs:List Tv} {sg:List Sgt} (h:Cop W base y pp rvs tvs sg):y.fit:=⟨own_fit h.p,own_fit h.r,own_fit h.t,own_fit h.s⟩
theorem Cop.led {W:World} {base:Nat} {y:Lsl} {pp:List Ppr} {rvs:List Rv} {tvs:List Tv} {sg:List Sgt} (h:Cop W base y pp rvs tvs sg):LedIn W W.heap.size y ⟨pp,rvs.map Rv.r,tvs.map Tv.r,sg⟩ :=
 ⟨sq_pp (Rd.of_own h.p) (own_len h.p (fun _=>rfl) (by omega)),rcs_of (sq_rv (Rd.of_own h.r) (own_len h.r (fun _=>rfl) (by omega)) fun v hv=>⟨Rd.of_own (h.rl v hv),own_fit (h.rl v hv)⟩),
   rts_of (Rd.of_own h.t) (own_len h.t (fun _=>rfl) (by omega)) (fun v hv=>⟨Rd.of_own (h.tl v hv),own_fit (h.tl v hv)⟩),sq_sg (Rd.of_own h.s) (own_len h.s (fun _=>rfl) (by omega))⟩
theorem Cop.ext {W W':World} {base:Nat} {y:Lsl} {pp:List Ppr} {rvs:List Rv} {tvs:List Tv} {sg:List Sgt} (h:Cop W base y pp rvs tvs sg) (hb:Below W.heap.size W W'):Cop W' base y pp rvs tvs sg :=
 ⟨own_ex h.p hb,own_ex h.r hb,own_ex h.t hb,own_ex h.s hb,fun v hv=>own_ex (h.rl v hv) hb,fun v hv=>own_ex (h.tl v hv) hb⟩
theorem own_cset {w:World} {base size n B o:Nat} {t:TypeId} {v:Value} {xs:List Value} (h:w.ownsRow base t size v n xs) (u:Value) (hB:B<base):(w.setCell ⟨B,o,none⟩ u).ownsRow base t size v n xs :=
 own_keep h fun b hb=>Below.heap_setCell _ _ _ _ (show b≠B by have:=own_le h hb;omega)
theorem Cop.dn {W:World} {base base':Nat} {y:Lsl} {pp:List Ppr} {rvs:List Rv} {tvs:List Tv} {sg:List Sgt} (h:Cop W base y pp rvs tvs sg) (hb:base'≤base):Cop W base' y pp rvs tvs sg :=
 ⟨own_dn h.p hb,own_dn h.r hb,own_dn h.t hb,own_dn h.s hb,fun v hv=>own_dn (h.rl v hv) hb,fun v hv=>own_dn (h.tl v hv) hb⟩
theorem Cop.cset {W:World} {base:Nat} {y:Lsl} {pp:List Ppr} {rvs:List Rv} {tvs:List Tv} {sg:List Sgt} (h:Cop W base y pp rvs tvs sg) {B o:Nat} (u:Value) (hB:B<base):Cop (W.setCell ⟨B,o,none⟩ u) base y pp rvs tvs sg :=
 ⟨own_cset h.p u hB,own_cset h.r u hB,own_cset h.t u hB,own_cset h.s u hB,fun v hv=>own_cset (h.rl v hv) u hB,fun v hv=>own_cset (h.tl v hv) u hB⟩
theorem Cop.kept {W W':World} {base B:Nat} {cs:Array Value} {y:Lsl} {pp:List Ppr} {rvs:List Rv} {tvs:List Tv} {sg:List Sgt} (h:Cop W base y pp rvs tvs sg) (hb:BoxA W B 27 cs) (hg:W.grownBy W' (some B)):Cop W' base y pp rvs tvs sg :=
 ⟨h.p.kept hg (.inr fun e=>own_ne h.p hb (by decide) e.symm),h.r.kept hg (.inr fun e=>own_ne h.r hb (by decide) e.symm),h.t.kept hg (.inr fun e=>own_ne h.t hb (by decide) e.symm),h.s.kept hg (.inr fun e=>own_ne h.s hb (by decide) e.symm),
   fun v hv=>(h.rl v hv).kept hg (.inr fun e=>own_ne (h.rl v hv) hb (by decide) e.symm),fun v hv=>(h.tl v hv).kept hg (.inr fun e=>own_ne (h.tl v hv) hb (by decide) e.symm)⟩
theorem ty_ne:29≠32∧29≠36∧29≠38∧32≠36∧32≠38∧36≠38∧3≠29∧3≠32∧3≠36∧3≠38:=by decide
end Go.Proofs.YtoiompoapikkbaaGreat
