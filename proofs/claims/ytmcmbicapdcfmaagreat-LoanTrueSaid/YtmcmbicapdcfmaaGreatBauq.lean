/- Layer 2 of the texts that LoanBack takes: Bauq. -/
import Derived.Test.YtmcmbicapdcfmaaGreatBasq
set_option linter.unusedVariables false
set_option linter.unusedSimpArgs false
set_option maxHeartbeats 16000000
namespace Go.Proofs.YtmcmbicapdcfmaaGreat
open Go.RowKit Go.Shelf Go.Maps
attribute [local go_sem] Oper.semAt_some
theorem RdJ.below {lo bm bp bt b:Nat} {M:List ((Int × Int) × Nat)} {T:List Bool} {P:List (Int × Int)} {w W W':World} (h:RdJ lo bm bp bt M T P w W) (hb:Below b W W') (hs:bm<w.heap.size∧bp<w.heap.size∧bt<w.heap.size) (hlo:lo≤w.heap.size) (hwb:w.heap.size≤b):RdJ lo bm bp bt M T P w W' :=
 ⟨h.m.keep (hb.block _ (by omega)),(hb.block _ (by omega)).trans h.bP,(hb.block _ (by omega)).trans h.bT,⟨h.k.bel.trans (hb.mono (by omega)),fun k hk h1 h2 h3=>(hb.block k (by omega)).trans (h.k.blk k hk h1 h2 h3)⟩⟩
structure IsFr (F:(Nat→Value)→Act) (a:Act):Prop where
 ex:∃ u,a=F u
theorem IsFr.of {F:(Nat→Value)→Act} {X:Act} (h:X=F fun j=>X.tmps.getD j undef):IsFr F X:=⟨_,h⟩
def hiSI {xs:List Rv} {pap leaf:Int} (d h:Int) (pre:List (YR xs pap leaf)):Int:=hiL d h (pre.map (·.1.r))
theorem hiSI_snoc {xs:List Rv} {pap leaf:Int} (d h:Int) (pre:List (YR xs pap leaf)) (x:YR xs pap leaf):hiSI d h (pre ++ [x])=hiStep d (hiSI d h pre) x.1.r:=by
 rw [hiSI,List.map_append,List.map_cons,List.map_nil,hiL_snoc];rfl
theorem hiSI_all {xs:List Rv} {pap leaf:Int} (d h:Int) {ys:List (YR xs pap leaf)} (hy:ys.map (·.1)=ofL xs pap leaf):hiSI d h ys=hiL d h ((xs.map Rv.r).filter (isOfB pap leaf)):=by
 have h3:=congrArg (List.map Rv.r) hy
 rw [List.map_map] at h3
 rw [hiSI,← ofL_map,← h3]
 rfl
set_option maxRecDepth 100000 in
theorem p_read_yes (l:Led) (R:List Rcp) (s:Opn) (i:Nat) (t:Rtn) (x:Lsl) (kn:Int) (RA SA:Option Addr) (Rn Rc Sn Sc bm bp bt Tc Pc lo B:Nat) (w:World) (ht:l.rt[i]?=some t)
 (hN:Rn≤1000000) (hok:∀ r∈R,r.lv.length≤1000000∧(Lit.int .i64 r.src).wf=true∧0≤r.day∧r.day≤1000000) (htn:t.lv.length≤1000000) (htw:∀ x∈t.lv,(Lit.int .i64 x).wf=true)
 (hB:B≤bp∧B≤bt∧B≤w.heap.size) (hlo:lo≤w.heap.size∧lo≤bm∧lo≤bp∧lo≤bt) (hr:Rcs w B RA Rn R) (hT:Rts w B x.tA x.tn l.rt) (hTn:s.T.length=x.tn) (hPn:s.P.length=x.tn) (hx60:x.tn≤1000000)
 (h:RdJ lo bm bp bt s.M s.T s.P w w) (r:Rcp) (hyes:readR kn R s.M t=some r) :
 Calls Tryz.prog 120 #[accV ⟨x,kn,RA,Rn,Rc,SA,Sn,Sc,bm,some ⟨bt,0,none⟩,x.tn,Tc,some ⟨bp,0,none⟩,x.tn,Pc⟩,.int .i64 i] w (RetRd lo bm bp bt (readS kn R s i t) w):=by
 obtain ⟨pA,pn,pc,rA,rn,rc,tA,tn,tc,sA,sn,sc⟩:=x
 obtain ⟨M,T,P⟩:=s
 have hT:Rts w B tA tn l.rt:=hT
 have hTn:T.length=tn:=hTn
 have hPn:P.length=tn:=hPn
 have htn60:tn≤1000000:=hx60
 have h:RdJ lo bm bp bt M T P w w:=h
 have hyes:readR kn R M t=some r:=hyes
 show Calls _ _ #[.agg #[.slice pA pn pc,.slice rA rn rc,.slice tA tn tc,.slice sA sn sc,.int .i64 kn,.slice RA Rn Rc,.slice SA Sn Sc,.map (some bm),.slice (some ⟨bt,0,none⟩) tn Tc,.slice (some ⟨bp,0,none⟩) tn Pc],_] _ _
 have hit:i<tn:=by rw [← hT.len];exact (List.getElem?_eq_some_iff.1 ht).1
 obtain ⟨bR,oR,t',rfl,hbR,ht',A2,n2,c2,⟨t0,t1,t2,t3,t4,t5,t6,t7⟩,hi2,hc2,hm2⟩:=hT.at_ hit
 obtain rfl:t=t':=Option.some.inj (ht.symm.trans ht')
 have hRw:bR<w.heap.size:=by have:=hB.2.2;omega
 have hRn:bR≠bp:=by have:=hB.1;omega
 have hRn':bp≠bR:=by omega
 have hm0:=h.m
 have hbm:=h.m.lt
 have hbp:=h.bP.lt
 have hbt:=h.bT.lt
 have HS:Hid (bm<w.heap.size∧bp<w.heap.size∧bt<w.heap.size):=by show _∧_;exact ⟨hbm,hbp,hbt⟩
 have HJ:=hd_ h
 have HI2:Hid (∀ W,(∀ b o,b<B→W.cell? ⟨b,o,none⟩=w.cell? ⟨b,o,none⟩)→B≤W.heap.size→Is W W.heap.size A2 n2 t.lv):=by
  show ∀ _,_
  exact fun W hW hBW=>Is.more (Rd.keep hi2 hW) hBW
 obtain ⟨xs,hxs,hxv⟩:=rvs_of hr
 have HXV:Hid (∀ W,(∀ b o,b<B→W.cell? ⟨b,o,none⟩=w.cell? ⟨b,o,none⟩)→Sq QV 7 W B RA Rn xs):=by
  show ∀ _,_
  exact fun W hW=>hxv.keep abV hW
 have hl1:∀ v∈xs,v.n≤1000000:=fun v hv=>by
  obtain ⟨k,hk⟩:=List.getElem?_of_mem hv
  obtain ⟨b,o,y,_,_,hy,hq⟩:=hxv.at_ (k:=k) (by rw [← hxv.len];exact (List.getElem?_eq_some_iff.1 hk).1)
  obtain rfl:v=y:=Option.some.inj (hk.symm.trans hy)
  rw [← hq.2.1.len]
  exact (hok v.r (by rw [← hxs];exact List.mem_map.2 ⟨v,hv,rfl⟩)).1
 have HL1:=hd_ hl1
 have HXS:=hd_ hxs
 have hRn:Rn≤1000000:=hN
 clear hxv hl1 hxs
 have HRR:Hid (∀ W,(∀ b o,b<B→W.cell? ⟨b,o,none⟩=w.cell? ⟨b,o,none⟩)→B≤W.heap.size→Rcs W W.heap.size RA Rn R):=by
  show ∀ _,_
  exact fun W hW hBW=>(hr.keep abR hW).more abR hBW
 have HRC:Hid (∀ W,Below B w W→Calls Tryz.prog 83 #[.agg #[.slice pA pn pc,.slice rA rn rc,.slice (some ⟨bR,oR,none⟩) tn tc,.slice sA sn sc,.int .i64 kn,.slice RA Rn Rc,.slice SA Sn Sc,.map (some bm),.slice (some ⟨bt,0,none⟩) tn Tc,.slice (some ⟨bp,0,none⟩) tn Pc],.int .i64 t.rcp] W (RetRc (findR R t.rcp) W)):=by
  show ∀ _,_
  exact fun W hW=>p_receipt R ⟨⟨pA,pn,pc,rA,rn,rc,some ⟨bR,oR,none⟩,tn,tc,sA,sn,sc⟩,kn,RA,Rn,Rc,SA,Sn,Sc,bm,some ⟨bt,0,none⟩,tn,Tc,some ⟨bp,0,none⟩,tn,Pc⟩ t.rcp W hN (HRR.out W (fun b o hb=>hW.cell (p:=⟨b,o,none⟩) hb) (Nat.le_trans hB.2.2 hW.size))
 have hB1:=hB.1
 have hB2:=hB.2.1
 have hB3:=hB.2.2
 have HOK:=hd_ hok
 have HTW:=hd_ htw
 have HLT:=hd_ hi2.len
 have hn2:n2≤1000000:=by rw [← hi2.len];exact htn
 have hlo1:=hlo.1
 have hlo2:=hlo.2.1
 have hlo3:=hlo.2.2.1
 have hlo4:=hlo.2.2.2
 obtain ⟨d,hd⟩:∃ d,P[i]?=some d:=⟨_,List.getElem?_eq_getElem (by omega)⟩
 have g0:=(folCells_get P i d hd).1
 have g1:=(folCells_get P i d hd).2
 have cP0:w.cell? ⟨bp,i*2,none⟩=some (.int .i64 d.1):=by rw [h.bP.cell];simpa using g0
 have cP1:w.cell? ⟨bp,i*2+1,none⟩=some (.int .i64 d.2):=by rw [h.bP.cell];simpa using g1
 have fP:=h.bP.frozen
 clear h hr hT hi2 hok htw ht ht' g0 g1 hd hB hlo hN hx60
 have HFIN:Hid (∀ (W:World),Below ((((w.setCell ⟨bp,i*2,none⟩ (.int .i64 0)).setCell ⟨bp,i*2+1,none⟩ (.int .i64 100000)).alloc (.cells #[.slice pA pn pc,.slice rA rn rc,.slice (some ⟨bR,oR,none⟩) tn tc,.slice sA sn sc,.int .i64 kn,.slice RA Rn Rc,.slice SA Sn Sc,.map (some bm),.slice (some ⟨bt,0,none⟩) tn Tc,.slice (some ⟨bp,0,none⟩) tn Pc] 115)).alloc (.cells #[.int .i64 t.src,.int .i64 t.rcp,.int .i64 t.per,.slice A2 n2 c2,.int .i64 t.lo,.int .i64 t.hi,.int .i64 t.kn,.int .i64 t.un] 75)).heap.size ((((w.setCell ⟨bp,i*2,none⟩ (.int .i64 0)).setCell ⟨bp,i*2+1,none⟩ (.int .i64 100000)).alloc (.cells #[.slice pA pn pc,.slice rA rn rc,.slice (some ⟨bR,oR,none⟩) tn tc,.slice sA sn sc,.int .i64 kn,.slice RA Rn Rc,.slice SA Sn Sc,.map (some bm),.slice (some ⟨bt,0,none⟩) tn Tc,.slice (some ⟨bp,0,none⟩) tn Pc] 115)).alloc (.cells #[.int .i64 t.src,.int .i64 t.rcp,.int .i64 t.per,.slice A2 n2 c2,.int .i64 t.lo,.int .i64 t.hi,.int .i64 t.kn,.int .i64 t.un] 75)) W→RdJ lo bm bp bt M T (P.set i (0,100000)) w W∧BoxA W w.heap.size 115 #[.slice pA pn pc,.slice rA rn rc,.slice (some ⟨bR,oR,none⟩) tn tc,.slice sA sn sc,.int .i64 kn,.slice RA Rn Rc,.slice SA Sn Sc,.map (some bm),.slice (some ⟨bt,0,none⟩) tn Tc,.slice (some ⟨bp,0,none⟩) tn Pc]∧BoxA W (w.heap.size+1) 75 #[.int .i64 t.src,.int .i64 t.rcp,.int .i64 t.per,.slice A2 n2 c2,.int .i64 t.lo,.int .i64 t.hi,.int .i64 t.kn,.int .i64 t.un]∧w.heap.size+2≤W.heap.size):=by
  show ∀ _,_
  intro W hW
  have hb:=(BoxA.new ((w.setCell ⟨bp,i*2,none⟩ (.int .i64 0)).setCell ⟨bp,i*2+1,none⟩ (.int .i64 100000)) 115 #[.slice pA pn pc,.slice rA rn rc,.slice (some ⟨bR,oR,none⟩) tn tc,.slice sA sn sc,.int .i64 kn,.slice RA Rn Rc,.slice SA Sn Sc,.map (some bm),.slice (some ⟨bt,0,none⟩) tn Tc,.slice (some ⟨bp,0,none⟩) tn Pc]).alloc (.cells #[.int .i64 t.src,.int .i64 t.rcp,.int .i64 t.per,.slice A2 n2 c2,.int .i64 t.lo,.int .i64 t.hi,.int .i64 t.kn,.int .i64 t.un] 75)
  have hc:=BoxA.new (((w.setCell ⟨bp,i*2,none⟩ (.int .i64 0)).setCell ⟨bp,i*2+1,none⟩ (.int .i64 100000)).alloc (.cells #[.slice pA pn pc,.slice rA rn rc,.slice (some ⟨bR,oR,none⟩) tn tc,.slice sA sn sc,.int .i64 kn,.slice RA Rn Rc,.slice SA Sn Sc,.map (some bm),.slice (some ⟨bt,0,none⟩) tn Tc,.slice (some ⟨bp,0,none⟩) tn Pc] 115)) 75 #[.int .i64 t.src,.int .i64 t.rcp,.int .i64 t.per,.slice A2 n2 c2,.int .i64 t.lo,.int .i64 t.hi,.int .i64 t.kn,.int .i64 t.un]
  have hs:=hW.size
  simp only [World.size_alloc,World.size_setCell] at hs hc hb
  exact ⟨(((HJ.out.setF hlo1 hlo3 i (0,100000)).keep hlo1 HS.out (grown_alloc _ _ none) (by simp)).keep hlo1 HS.out (grown_alloc _ _ none) (by simp)).keep hlo1 HS.out (grown_of_below hW) (by simp),hb.ext hW,hc.ext hW,hs⟩
 have hcn':∀ b,countsB t.kn t.un kn=b→readS kn R ⟨M,T,P⟩ i t=readS kn R ⟨M,T,P⟩ i t:=fun _ _=>rfl
 clear hcn'
 have hf:findR R t.rcp=some r∧countsB t.kn t.un kn=true∧takesB (encM M) r t.lv=true∧decide (t.hi<max t.lo (r.day+1))=false:=by
  rw [readR] at hyes
  cases hf:findR R t.rcp with
  | none=>rw [hf] at hyes;cases hyes
  | some r' =>
    rw [hf] at hyes
    simp only at hyes
    split at hyes
    ·rename_i h1
     simp only [Option.some.injEq] at hyes
     subst hyes
     simp only [Bool.and_eq_true,Bool.not_eq_true'] at h1
     exact ⟨rfl,h1.1,h1.2.1,h1.2.2⟩
    ·cases hyes
 obtain ⟨hf,hcn,htk,hem⟩:=hf
 obtain ⟨hr1,hr2,hr3,hr4⟩:=HOK.out r (findR_mem hf).1
 have hRC:=HRC.out
 rw [hf] at hRC
 have HRC:=hd_ hRC
 have HF:=hd_ hf
 have HM0:=hd_ hm0
 have HC:=hd_ hcn
 have HTK:=hd_ htk
 clear hRC hf hm0 hyes
 have hres:readS kn R ⟨M,T,P⟩ i t=⟨putK M r.src i t.lv,T.set i true,(P.set i (0,100000)).set i (max t.lo (r.day+1),hiK R r t.hi t.lv)⟩:=by
  simp only [readS,readR,HF.out,hcn,htk,hem]
  rfl
 rw [hres]
 have HEM:=hd_ hem
 clear hres hcn htk hem
 refine (callsIn_wide (n:=9)).1 ?_
 have h1:1≤9:=by omega
 (refine callsIn_of_wp_marks Tryz.func120 rfl trivial ?_ rfl;simp only [Tryz.ntmps120,List.size_toArray,List.length_cons,List.length_nil,Nat.reduceAdd,Nat.reduceSub,Array.replicate_succ,Array.replicate_zero,List.push_toArray,List.append_toArray,List.nil_append,List.cons_append])
 gi_wp2_with (first | (refine ⟨trivial,?_⟩;gi_at_call 83;refine (callsIn_wide.2 (HRC.out _ (by exact bel_))).mono ?_;rintro e w3 ⟨hb3,A1,n1,c1,rfl,hi1,hc1,hm1⟩;obtain ⟨hJ3,bA3,bT3,hz3⟩:=HFIN.out _ hb3;have hn1:n1≤1000000:=(by rw [← hi1.len];exact hr1);have HJ3:=hd_ hJ3;have HI1:=hd_ (hi1.now hb3);have kA:=bA3.cell;have zA:=bA3.lt;have kT:=bT3.cell;have zT:=bT3.lt;clear hi1 hJ3 hb3) | (refine ⟨trivial,?_⟩;gi_at_call 119;refine (callsIn_wide.2 (p_counts2 _ _ _ true _ HC.out)).mono ?_;rintro e w1 ⟨rfl,rfl⟩) | (refine ⟨trivial,?_⟩;gi_at_call 151;refine (callsIn_wide.2 (p_takes_v (encM M) ⟨⟨pA,pn,pc,rA,rn,rc,some ⟨bR,oR,none⟩,tn,tc,sA,sn,sc⟩,kn,RA,Rn,Rc,SA,Sn,Sc,bm,some ⟨bt,0,none⟩,tn,Tc,some ⟨bp,0,none⟩,tn,Pc⟩ r t.lv A1 n1 c1 A2 n2 c2 _ _ hn2 hn1 (HJ3.out.m.alloc _) (HI1.out.now (by exact bel_)) (HI2.out _ (fun b o hb=>(HJ3.out.keep hlo1 HS.out (grown_alloc w3 (.cells #[.int .i64 r.src,.int .i64 r.bor,.int .i64 r.pap,.slice A1 n1 c1,.int .i64 r.day,.int .i64 r.kn,.int .i64 r.un] 79) none) (by simp)).cells HM0.out ⟨hB1,hB2,hB3⟩ b o hb) (by simp;omega)) HTW.out hr2 HTK.out)).mono ?_;rintro e w4 ⟨rfl,hb4⟩;have bA4:=(bA3.alloc (.cells #[.int .i64 r.src,.int .i64 r.bor,.int .i64 r.pap,.slice A1 n1 c1,.int .i64 r.day,.int .i64 r.kn,.int .i64 r.un] 79)).ext hb4;have bT4:=(bT3.alloc (.cells #[.int .i64 r.src,.int .i64 r.bor,.int .i64 r.pap,.slice A1 n1 c1,.int .i64 r.day,.int .i64 r.kn,.int .i64 r.un] 79)).ext hb4;have bR4:=(BoxA.new w3 79 #[.int .i64 r.src,.int .i64 r.bor,.int .i64 r.pap,.slice A1 n1 c1,.int .i64 r.day,.int .i64 r.kn,.int .i64 r.un]).ext hb4;have hs4:=hb4.size;simp only [World.size_alloc] at hs4;have HJ4:=hd_ ((HJ3.out.keep hlo1 HS.out (grown_alloc w3 (.cells #[.int .i64 r.src,.int .i64 r.bor,.int .i64 r.pap,.slice A1 n1 c1,.int .i64 r.day,.int .i64 r.kn,.int .i64 r.un] 79) none) (by simp)).keep hlo1 HS.out (grown_of_below hb4) (by simp));clear kA zA kT zT;have kA:=bA4.cell;have zA:=bA4.lt;have kT:=bT4.cell;have zT:=bT4.lt;have kR:=bR4.cell;have zR:=bR4.lt) | (refine ⟨trivial,?_⟩;gi_at_call 152;refine (callsIn_wide.2 (p_behind w4.heap.size 0 t.lo r.day _ hr3 hr4 (new_frozen w4 _ _) ((BoxA.new w4 133 #[.int .i64 t.lo,.int .i64 t.hi]).cell 0))).mono ?_;rintro e w6 ⟨⟨v6,rfl⟩,hw6⟩;have nA:w.heap.size≠w4.heap.size:=(by omega);have nT:w.heap.size+1≠w4.heap.size:=(by omega);have nR:w3.heap.size≠w4.heap.size:=(by omega);have bA6:BoxA w6 w.heap.size 115 #[.slice pA pn pc,.slice rA rn rc,.slice (some ⟨bR,oR,none⟩) tn tc,.slice sA sn sc,.int .i64 kn,.slice RA Rn Rc,.slice SA Sn Sc,.map (some bm),.slice (some ⟨bt,0,none⟩) tn Tc,.slice (some ⟨bp,0,none⟩) tn Pc]:=(by rw [hw6];exact (bA4.alloc _).other nA _);have bT6:BoxA w6 (w.heap.size+1) 75 #[.int .i64 t.src,.int .i64 t.rcp,.int .i64 t.per,.slice A2 n2 c2,.int .i64 t.lo,.int .i64 t.hi,.int .i64 t.kn,.int .i64 t.un]:=(by rw [hw6];exact (bT4.alloc _).other nT _);have bR6:BoxA w6 w3.heap.size 79 #[.int .i64 r.src,.int .i64 r.bor,.int .i64 r.pap,.slice A1 n1 c1,.int .i64 r.day,.int .i64 r.kn,.int .i64 r.un]:=(by rw [hw6];exact (bR4.alloc _).other nR _);have bD6:BoxA w6 w4.heap.size 133 #[.int .i64 (max t.lo (r.day+1)),.int .i64 t.hi]:=(by rw [hw6];exact (BoxA.new w4 _ _).set 0 _);have hs6:w4.heap.size<w6.heap.size:=bD6.lt;have HJ6:Hid (RdJ lo bm bp bt M T (P.set i (0,100000)) w w6):=(by show RdJ _ _ _ _ _ _ _ _ _;rw [hw6];exact (HJ4.out.keep hlo1 HS.out (grown_alloc w4 _ none) (by simp)).keep hlo1 HS.out (grown_setCell _ w4.heap.size 0 _) (fun r e=>by cases e;omega));clear kA zA kT zT kR zR hw6;have kA:=bA6.cell;have zA:=bA6.lt;have kT:=bT6.cell;have zT:=bT6.lt;have kR:=bR6.cell;have zR:=bR6.lt;have kD:=bD6.cell;have zD:=bD6.lt) | (refine ⟨trivial,?_⟩;gi_at_call 153;refine (callsIn_wide.2 (p_empty_v (max t.lo (r.day+1)) t.hi _ _ HEM.out)).mono ?_;rintro e w7 ⟨rfl,hb7⟩;have bA7:=bA6.ext hb7;have bT7:=bT6.ext hb7;have bR7:=bR6.ext hb7;have bD7:=bD6.ext hb7;have hs7:=hb7.size;have HJ7:=hd_ (HJ6.out.keep hlo1 HS.out (grown_of_below hb7) (by simp));clear kA zA kT zT kR zR kD zD hb7;have kA:=bA7.cell;have zA:=bA7.lt;have kT:=bT7.cell;have zT:=bT7.lt;have kR:=bR7.cell;have zR:=bR7.lt;have kD:=bD7.cell;have zD:=bD7.lt))
 have hL0:RdL lo bm bp bt (putK M r.src i (t.lv.take 0)) T (P.set i (0,100000)) w w.heap.size w3.heap.size w4.heap.size w7.heap.size #[.slice pA pn pc,.slice rA rn rc,.slice (some ⟨bR,oR,none⟩) tn tc,.slice sA sn sc,.int .i64 kn,.slice RA Rn Rc,.slice SA Sn Sc,.map (some bm),.slice (some ⟨bt,0,none⟩) tn Tc,.slice (some ⟨bp,0,none⟩) tn Pc] #[.int .i64 r.src,.int .i64 r.bor,.int .i64 r.pap,.slice A1 n1 c1,.int .i64 r.day,.int .i64 r.kn,.int .i64 r.un] (max t.lo (r.day+1)) (hiK R r t.hi (t.lv.take 0)) [] w7:=⟨HJ7.out,bA7,bR7,bD7,⟨by simp,by simp,by simp⟩,lr_⟩
 have HL0:=hd_ hL0
 have hsz1:w.heap.size≤w7.heap.size:=by omega
 have hsz2:w3.heap.size<w7.heap.size:=by omega
 have hsz3:w4.heap.size<w7.heap.size:=by omega
 clear hL0 bA3 bT3 bA4 bT4 bR4 bA6 bT6 bR6 bD6 bA7 bT7 bR7 bD7 kA zA kT zT kR zR kD zD
 refine wpIn_named2 fun f0 W0 hf0 hW0=>?_
 subst hW0
 refine wpIn_loop (fun a' W=>∃ k:Nat,k≤n2∧∃ l:List Nat,RdL lo bm bp bt (putK M r.src i (t.lv.take k)) T (P.set i (0,100000)) w w.heap.size w3.heap.size w4.heap.size w7.heap.size #[.slice pA pn pc,.slice rA rn rc,.slice (some ⟨bR,oR,none⟩) tn tc,.slice sA sn sc,.int .i64 kn,.slice RA Rn Rc,.slice SA Sn Sc,.map (some bm),.slice (some ⟨bt,0,none⟩) tn Tc,.slice (some ⟨bp,0,none⟩) tn Pc] #[.int .i64 r.src,.int .i64 r.bor,.int .i64 r.pap,.slice A1 n1 c1,.int .i64 r.day,.int .i64 r.kn,.int .i64 r.un] (max t.lo (r.day+1)) (hiK R r t.hi (t.lv.take k)) l W∧IsFr (fun u=>{ tmps:=#[u 0,.int .i64 (i:Nat),.pointer (some ⟨w.heap.size,0,none⟩),u 3,u 4,.pointer (some ⟨w3.heap.size,0,none⟩),u 6,.pointer (some ⟨w4.heap.size,0,none⟩),u 8,u 9,u 10,u 11,u 12,u 13,u 14,u 15,u 16,u 17,u 18,u 19,u 20,u 21,u 22,u 23,u 24,u 25,u 26,u 27,u 28,u 29,u 30,u 31,u 32,u 33,u 34,u 35,u 36,u 37,u 38,u 39,u 40,u 41,u 42,u 43,u 44,u 45,u 46,u 47,u 48,u 49,u 50,u 51,u 52,u 53,u 54,u 55,u 56,u 57,u 58,.slice A2 n2 c2,.int .i64 (n2:Nat),.int .i64 (k:Nat),u 62,u 63,u 64,u 65,u 66,u 67,u 68,u 69,u 70,u 71,u 72,u 73,u 74,u 75,u 76,u 77,u 78,u 79,u 80,u 81,u 82,u 83,u 84,u 85,u 86,u 87,u 88,u 89,u 90,u 91,u 92,u 93,u 94,u 95,u 96],defers:=marks l }) a')
  (fun a' _=>n2 - (intOf (a'.tmps.getD 61 undef)).toNat) ?start ?round
 case start =>
  subst hf0
  exact ⟨0,by omega,[],HL0.out,IsFr.of rfl⟩
 case round =>
  clear hf0 HL0
  rintro a' wr ⟨k,hk,l,hL,u,rfl⟩
  dsimp only
  have hsz:=hL.sz
  have hl1:∀ D∈l,D<wr.heap.size:=fun D hD=>hL.mks.lt hD
  have HCE:Hid (∀ b o,b<B→wr.cell? ⟨b,o,none⟩=w.cell? ⟨b,o,none⟩):=by show ∀ _,_;exact hL.j.cells HM0.out ⟨hB1,hB2,hB3⟩
  have kA:=hL.bA.cell
  have kR:=hL.br.cell
  by_cases hlt:k<n2
  ·obtain ⟨b,o,x,hA2,hb,hx,hcx⟩:=(HI2.out wr HCE.out (by omega)).at_ hlt
   have hwx:=HTW.out x (List.mem_of_getElem? hx)
   have HX:=hd_ hx
   have HA2:=hd_ hA2
   obtain ⟨es,nn,hup,hM2⟩:=hL.j.m.update key_slips Tryz.underlying112 (a:=(r.src,x)) ⟨hr2,hwx⟩ (.int .i64 (i:Nat))
   rw [putG_enc,← putK_succ HX.out] at hM2
   have hLm:=hL.setM hlo1 hlo2 hsz1 HS.out.1 hM2
   have kAm:=hLm.bA.cell
   have kRm:=hLm.br.cell
   have HLm:=hd_ hLm
   clear hx hM2 hLm hL
   rw [hA2]
   clear hA2
   have hWm:(setObj' wr bm (.map es nn)).heap.size=wr.heap.size:=by simp [setObj']
   have HWm:=hd_ hWm
   have hof:=p_of ⟨⟨pA,pn,pc,rA,rn,rc,some ⟨bR,oR,none⟩,tn,tc,sA,sn,sc⟩,kn,RA,Rn,Rc,SA,Sn,Sc,bm,some ⟨bt,0,none⟩,tn,Tc,some ⟨bp,0,none⟩,tn,Pc⟩ r.pap x (setObj' wr bm (.map es nn))
   rw [hWm] at hof
   clear hWm
   gi_wp2_with (refine ⟨trivial,?_⟩;gi_at_call 121;refine (callsIn_wide.2 hof).mono ?_;rintro e w5 ⟨rfl,hw5⟩)
   have hWm:=HWm.out
   refine wpIn_named2 fun a1 W1 ha1 hW0=>?_
   have hb0:Below (setObj' wr bm (.map es nn)).heap.size (setObj' wr bm (.map es nn)) W1:=by rw [← hW0];exact ((Below.refl _ _).alloc lr_ _).alloc (by simp) _
   have hs1:wr.heap.size+2≤W1.heap.size:=by rw [← hW0];simp [setObj']
   have b6:BoxA W1 wr.heap.size 115 #[.slice pA pn pc,.slice rA rn rc,.slice (some ⟨bR,oR,none⟩) tn tc,.slice sA sn sc,.int .i64 kn,.slice RA Rn Rc,.slice SA Sn Sc,.map (some bm),.slice (some ⟨bt,0,none⟩) tn Tc,.slice (some ⟨bp,0,none⟩) tn Pc]:=by
    rw [← hW0]
    have h:=(BoxA.new (setObj' wr bm (.map es nn)) 115 #[.slice pA pn pc,.slice rA rn rc,.slice (some ⟨bR,oR,none⟩) tn tc,.slice sA sn sc,.int .i64 kn,.slice RA Rn Rc,.slice SA Sn Sc,.map (some bm),.slice (some ⟨bt,0,none⟩) tn Tc,.slice (some ⟨bp,0,none⟩) tn Pc]).alloc (.cells #[.int .i64 r.pap,.int .i64 x] 48)
    rw [hWm] at h
    exact h
   have b7:BoxA W1 (wr.heap.size+1) 48 #[.int .i64 r.pap,.int .i64 x]:=by
    rw [← hW0]
    have h:=BoxA.new ((setObj' wr bm (.map es nn)).alloc (.cells #[.slice pA pn pc,.slice rA rn rc,.slice (some ⟨bR,oR,none⟩) tn tc,.slice sA sn sc,.int .i64 kn,.slice RA Rn Rc,.slice SA Sn Sc,.map (some bm),.slice (some ⟨bt,0,none⟩) tn Tc,.slice (some ⟨bp,0,none⟩) tn Pc] 115)) 48 #[.int .i64 r.pap,.int .i64 x]
    rw [World.size_alloc,hWm] at h
    exact h
   have hL1:=HLm.out.keep (bs:=wr.heap.size) hlo1 HS.out (grown_of_below hb0) (by simp) ⟨hsz1,by omega,hsz2,hsz3,hsz⟩ hl1
   obtain ⟨h0,hh0⟩:∃ h,hiK R r t.hi (t.lv.take k)=h:=⟨_,rfl⟩
   have HH0:=hd_ hh0
   rw [hh0] at hL1
   have hl2:∀ D∈l,D<W1.heap.size:=fun D hD=>by have:=hl1 D hD;omega
   have hXV:=HXV.out W1 (hL1.j.cells HM0.out ⟨hB1,hB2,hB3⟩)
   have hPw:∀ j,(fun j=>j<B∨j=wr.heap.size∨j=wr.heap.size+1) j→j<W1.heap.size:=fun j hj=>by simp only at hj;omega
   have HL1w:=hd_ hL1
   clear hW0 hb0 hL1 hWm kA kR kAm kRm hup HLm hh0
   refine wpIn_rangeFunc_ownH rfl h1 (gf:=155) (lb:=#[.pointer (some ⟨wr.heap.size,0,none⟩),.pointer (some ⟨wr.heap.size+1,0,none⟩)]) (by subst ha1;rfl) trivial (enters_of Tryz.func155 (by kernel_rfl) rfl)
    (of_stops 8 (by omega) wr.heap.size (wr.heap.size+1) B (fun j=>j<B∨j=wr.heap.size∨j=wr.heap.size+1) xs r.pap x RA Rn Rc W1 hRn HL1.out (fun k hk=>.inl hk) (.inr (.inl rfl)) (.inr (.inr rfl)) hPw (by omega) (b6.cell 5) (b7.cell 0) (b7.cell 1) hXV)
    keepP_t (keepP_b hPw) (Below.refl _ _) (fun _=>rfl)
    (fun (pre:List (YR xs r.pap x)) W=>RdL lo bm bp bt (putK M r.src i (t.lv.take (k+1))) T (P.set i (0,100000)) w w.heap.size w3.heap.size w4.heap.size w7.heap.size #[.slice pA pn pc,.slice rA rn rc,.slice (some ⟨bR,oR,none⟩) tn tc,.slice sA sn sc,.int .i64 kn,.slice RA Rn Rc,.slice SA Sn Sc,.map (some bm),.slice (some ⟨bt,0,none⟩) tn Tc,.slice (some ⟨bp,0,none⟩) tn Pc] #[.int .i64 r.src,.int .i64 r.bor,.int .i64 r.pap,.slice A1 n1 c1,.int .i64 r.day,.int .i64 r.kn,.int .i64 r.un] (max t.lo (r.day+1)) (hiSI r.day h0 pre) l W∧W1.heap.size≤W.heap.size)
    (fun _ _ _=>False)
    (fun s X Y row hs hg hr=>⟨hs.1.keep (bs:=W1.heap.size) hlo1 HS.out hg (fun r e=>(hr r e).1) ⟨hsz1,by omega,hsz2,hsz3,by omega⟩ hl2,Nat.le_trans hs.2 hg.size⟩)
    (fun _ _ _ _ _ hs _ _=>hs)
    ⟨HL1w.out,lr_⟩
    (fun x a' W=>∃ Bx,W1.heap.size≤Bx∧BoxA W Bx 79 #[.int .i64 x.1.r.src,.int .i64 x.1.r.bor,.int .i64 x.1.r.pap,.slice x.1.A x.1.n x.1.c,.int .i64 x.1.r.day,.int .i64 x.1.r.kn,.int .i64 x.1.r.un]∧a'={ tmps:=(a1.tmps.setIfInBounds 78 (rvV x.1)).setIfInBounds 10 (.pointer (some ⟨Bx,0,none⟩)),defers:=[] })
    (fun x a' _ X Y row hs hg hr=>by obtain ⟨Bx,g1,g2,g3⟩:=hs;exact ⟨Bx,g1,boxa_own Bx _ (fun (_:Unit)=>_) () X Y row g2 hg (fun r e=>(hr r e).2),g3⟩)
    ?assign ?body ?done ?stop
   case assign =>
    subst ha1
    rintro lp pre x W K ⟨hI,hs2⟩ hK
    simp only [encR]
    gi_wp2
    exact hK _ _ ((KeepsOthers.alloc _ _).from _) (KeepP.of_below (B:=W.heap.size) (by exact bel_) fun j hj=>Nat.lt_of_lt_of_le (hPw j hj) hs2) ⟨hI.keep (bs:=W1.heap.size) hlo1 HS.out (grown_alloc _ _ none) (by simp) ⟨hsz1,by omega,hsz2,hsz3,by omega⟩ hl2,by simp;omega⟩ ⟨W.heap.size,hs2,BoxA.new W _ _,rfl⟩
   case body =>
    subst ha1
    rintro lp pre y a' W hl ⟨rr,hrr⟩ ⟨hI,hs2⟩ ⟨Bx,hBx,bX,rfl⟩ hlt2
    have kX:=bX.cell
    have kr:=hI.br.cell
    have kd:=hI.bd.cell
    have fd:=hI.bd.frozen
    have HI:=hd_ hI
    have HBX:=hd_ bX
    obtain ⟨h2,hh2⟩:∃ h,hiSI r.day h0 pre=h:=⟨_,rfl⟩
    have HH2:=hd_ hh2
    rw [hh2] at kd
    have hsn:hiSI r.day h0 (pre ++ [y])=hiStep r.day h2 y.1.r:=by rw [hiSI_snoc,hh2]
    clear hI bX hh2
    simp only [List.setIfInBounds_toArray,List.set_cons_zero,List.set_cons_succ]
    by_cases hd:r.day<y.1.r.day
    ·have HF:Hid (hiSI r.day h0 (pre ++ [y])=min h2 y.1.r.day):=by show _=_;rw [hsn,hiStep,if_pos hd]
     clear hsn
     gi_wp2_with (refine ⟨trivial,?_⟩;gi_at_call 154;refine (CallsIn.inRound lp (callsIn_wide.2 (p_upTo w4.heap.size 0 (max t.lo (r.day+1)) h2 y.1.r.day W fd (kd 0) (kd 1)))).mono ?_;rintro e w8 ⟨⟨v8,rfl⟩,rfl⟩)
     have hI:=HI.out.1
     exact ⟨(KeepsOthers.setCell _ _ _).from _,KeepP.setCell _ _ (by simp only;omega),⟨by rw [HF.out];exact HI.out.setD hlo1 HS.out ⟨by omega,hsz3,by omega,by omega⟩ _,by simp;omega⟩⟩
    ·have HF:Hid (hiSI r.day h0 (pre ++ [y])=h2):=by show _=_;rw [hsn,hiStep,if_neg hd]
     clear hsn
     gi_wp2
     exact ⟨(KeepsOthers.refl _).from _,KeepP.refl _ _,⟨by rw [HF.out,← HH2.out];exact HI.out,hs2⟩⟩
   case done =>
    subst ha1
    rintro D ys W hD hys ⟨hI,hs2⟩ hK
    gi_wp2
    have hhi:hiSI r.day h0 ys=hiK R r t.hi (t.lv.take (k+1)):=by rw [hiK_succ HX.out,HH0.out,← HXS.out,hiSI_all _ _ hys]
    have hL2:RdL lo bm bp bt (putK M r.src i (t.lv.take (k+1))) T (P.set i (0,100000)) w w.heap.size w3.heap.size w4.heap.size w7.heap.size #[.slice pA pn pc,.slice rA rn rc,.slice (some ⟨bR,oR,none⟩) tn tc,.slice sA sn sc,.int .i64 kn,.slice RA Rn Rc,.slice SA Sn Sc,.map (some bm),.slice (some ⟨bt,0,none⟩) tn Tc,.slice (some ⟨bp,0,none⟩) tn Pc] #[.int .i64 r.src,.int .i64 r.bor,.int .i64 r.pap,.slice A1 n1 c1,.int .i64 r.day,.int .i64 r.kn,.int .i64 r.un] (max t.lo (r.day+1)) (hiK R r t.hi (t.lv.take (k+1))) (D :: l) W :=
     ⟨hI.j,hI.bA,hI.br,by rw [← hhi];exact hI.bd,⟨fun E hE=>by
       rcases List.mem_cons.1 hE with rfl | hE
       ·exact hK
       ·exact hI.mks.at_ E hE,fun E hE=>by
       rcases List.mem_cons.1 hE with rfl | hE
       ·omega
       ·exact hI.mks.ge E hE,List.nodup_cons.2 ⟨fun hm=>by have:=hl2 D hm;omega,hI.mks.nodup⟩⟩,hI.sz⟩
    exact ⟨⟨k+1,by omega,D :: l,hL2,by rw [← HA2.out];exact IsFr.of rfl⟩,by simp [intOf];omega⟩
   case stop =>
    rintro D c pre W _ _ h _
    exact h.elim
  ·have hkn:Hid (k=n2):=by show _=_;omega
   have hkt:t.lv.take k=t.lv:=List.take_of_length_le (by rw [HLT.out,hkn.out];exact lr_)
   rw [hkt] at hL
   have hJ:=hL.j
   have hMk:=hL.mks
   have kd0:=hL.bd.cell 0
   have kd1:=hL.bd.cell 1
   have kA5:=hL.bA.cell 8
   have kA6:=hL.bA.cell 9
   obtain ⟨tb,htb⟩:∃ tb,T[i]?=some tb:=⟨_,List.getElem?_eq_getElem (by omega)⟩
   have cT:wr.cell? ⟨bt,i,none⟩=some (.bool tb):=by rw [hJ.bT.cell];simp [boolL,htb]
   obtain ⟨pd,hpd⟩:∃ pd,(P.set i (0,100000))[i]?=some pd:=⟨_,List.getElem?_eq_getElem (by rw [List.length_set];omega)⟩
   have cQ0:wr.cell? ⟨bp,i*2,none⟩=some (.int .i64 pd.1):=by rw [hJ.bP.cell];simpa using (folCells_get _ i pd hpd).1
   have cQ1:wr.cell? ⟨bp,i*2+1,none⟩=some (.int .i64 pd.2):=by rw [hJ.bP.cell];simpa using (folCells_get _ i pd hpd).2
   have fT:=hJ.bT.frozen
   have fQ:=hJ.bP.frozen
   have hTP:bt≠bp:=fun e=>by
    have h2:wr.heap[bt]?=_:=hJ.bT
    have h3:wr.heap[bp]?=_:=hJ.bP
    rw [e,h3] at h2
    injection h2 with h2
    injection h2 with _ h2
    exact absurd h2 (by decide)
   have hPT:bp≠bt:=fun e=>hTP e.symm
   have HJL:=hd_ hJ
   have HML:=hd_ hMk
   have hge:∀ D∈l,D≠bt∧D≠bp:=fun D hD=>by have h1:=hMk.ge D hD;have h2:=HS.out.2;omega
   have HGE:=hd_ hge
   have hltb:=hJ.bT.lt
   have hltp:=hJ.bP.lt
   have hltA:=hL.bA.lt
   have hltD:=hL.bd.lt
   clear hkt hL hJ hMk hge htb hpd kA kR
   gi_wp2
   refine wpIn_cut (fun a' W'=>(∃ t',a'={ tmps:=t',defers:=marks l })∧RdJ lo bm bp bt (putK M r.src i t.lv) (T.set i true) ((P.set i (0,100000)).set i (max t.lo (r.day+1),hiK R r t.hi t.lv)) w W'∧Marked w7.heap.size l W') ?reg ?rest
   case reg =>
    gi_region
    all_goals
     refine ⟨⟨_,rfl⟩,?_,?_⟩
     ·first
      | exact ((HJL.out.keep hlo1 HS.out (grown_drew _ none) (by simp)).setT hlo1 hlo4 i true).setF hlo1 hlo3 i (max t.lo (r.day+1),hiK R r t.hi t.lv)
      | exact ((HJL.out.keep hlo1 HS.out (grown_drew _ none) (by simp)).setF hlo1 hlo3 i (max t.lo (r.day+1),hiK R r t.hi t.lv)).setT hlo1 hlo4 i true
     ·refine HML.out.keep fun D hD=>?_
      have hg:=HGE.out D hD
      first
      | exact (Below.heap_setCell _ _ _ _ hg.2).trans ((Below.heap_setCell _ _ _ _ hg.2).trans (Below.heap_setCell _ _ _ _ hg.1))
      | exact (Below.heap_setCell _ _ _ _ hg.1).trans ((Below.heap_setCell _ _ _ _ hg.2).trans (Below.heap_setCell _ _ _ _ hg.2))
   case rest =>
    rintro a' W' ⟨⟨t',rfl⟩,hJ,hMk⟩
    refine leaves_marks l W' hMk fun W'' hb hk=>?_
    refine ⟨_,results_none rfl _ _ _,⟨_,rfl⟩,hJ.below hb HS.out hlo1 hsz1⟩
end Go.Proofs.YtmcmbicapdcfmaaGreat
