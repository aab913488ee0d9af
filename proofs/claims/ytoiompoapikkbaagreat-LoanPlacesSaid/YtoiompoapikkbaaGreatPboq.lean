/- Layer 2 of the texts that LoanPlaces takes: Pboq. -/
import Derived.Test.YtoiompoapikkbaaGreatPbmq
set_option linter.unusedVariables false
set_option linter.unusedSimpArgs false
set_option maxHeartbeats 16000000
namespace Go.Proofs.YtoiompoapikkbaaGreat
open Go.RowKit Go.Maps
theorem refHi_succ {kn:Int} {r:Rcp} {lv:List Int} {h:Int} {u:Rcp} {k:Nat} {x:Int} (hx:lv[k]?=some x):refHi kn r (lv.take (k+1)) h u=if r.day<u.day∧(countsB u.kn u.un kn && isOfB r.pap x u)=true then min (refHi kn r (lv.take k) h u) u.day else refHi kn r (lv.take k) h u:=by
 rw [take_snoc_some hx,refHi,List.foldl_append]
 rfl
theorem hiR_succ {kn:Int} {r:Rcp} {lv:List Int} {h:Int} {R:List Rcp} {k:Nat} {u:Rcp} (hu:R[k]?=some u):(R.take (k+1)).foldl (refHi kn r lv) h=refHi kn r lv ((R.take k).foldl (refHi kn r lv) h) u:=by
 rw [take_snoc_some hu,List.foldl_append]
 rfl
set_option maxRecDepth 10000 in
theorem r_byReceipts0 (l:Led) (v:Vw) (T:List Bool) (i:Nat) (w:World) (hTn:v.Tn≤1000000) (hT:Sq QB 1 w w.heap.size v.TA v.Tn T) (ht:T[i]?=some false) :
 Calls Tryz.prog 192 #[vwV v,.int .i64 i] w fun e w'=>e=.returned (.agg #[.int .i64 0,.int .i64 100000])∧Below w.heap.size w w':=by
 obtain ⟨⟨pA,pn,pc,rA,rn,rc,tA,tn,tc,sA,sn,sc⟩,kn,TA,Tn,Tc,DA,Dn,Dc⟩:=v
 have hT1:Sq QB 1 w w.heap.size TA Tn T:=hT
 have hTn1:Tn≤1000000:=hTn
 have hi:i<Tn:=by rw [← hT1.len];exact (List.getElem?_eq_some_iff.1 ht).1
 obtain ⟨b,o,tb,rfl,hb,hx,q0⟩:=hT1.at_ hi
 obtain rfl:tb=false:=Option.some.inj (hx.symm.trans ht)
 have q0:w.cell? ⟨b,o+i,none⟩=some (.bool false):=by have h:w.cell? ⟨b,o+i*1,none⟩=some (.bool false):=q0;rwa [Nat.mul_one] at h
 clear hT hT1 hx ht hTn
 show Calls _ _ #[.agg #[.slice pA pn pc,.slice rA rn rc,.slice tA tn tc,.slice sA sn sc,.int .i64 kn,.slice (some ⟨b,o,none⟩) Tn Tc,.slice DA Dn Dc],_] _ _
 go_enter Tryz.func192,Tryz.ntmps192
 go_wp2
 refine bodyPost_ret (v:=.agg #[.int .i64 0,.int .i64 100000]) ?_ rfl ?_
 ·(simp [results,Tryz.f192,go_sem];try go_simp)
 ·exact ⟨rfl,by exact bel_⟩
set_option maxRecDepth 10000 in
theorem r_byReceipts1 (l:Led) (v:Vw) (T:List Bool) (i ix:Nat) (t:Rtn) (r:Rcp) (w:World) (hl:LedOk l) (hTt:v.Tn=v.x.tn) (hd:LedIn w w.heap.size v.x l) (hT:Sq QB 1 w w.heap.size v.TA v.Tn T) (hti:T[i]?=some true) (ht:l.rt[i]?=some t) (hix:rcIx l.rc t.rcp v.kn=some ix) (hr:l.rc[ix]?=some r) :
 Calls Tryz.prog 192 #[vwV v,.int .i64 i] w fun e w'=>e=.returned (.agg #[.int .i64 (max t.lo (r.day+1)),.int .i64 (l.rc.foldl (refHi v.kn r t.lv) t.hi)])∧Below w.heap.size w w':=by
 obtain ⟨⟨pA,pn,pc,rA,rn,rc,tA,tn,tc,sA,sn,sc⟩,kn,TA,Tn,Tc,DA,Dn,Dc⟩:=v
 obtain rfl:Tn=tn:=hTt
 show Calls _ _ #[.agg #[.slice pA pn pc,.slice rA rn rc,.slice tA Tn tc,.slice sA sn sc,.int .i64 kn,.slice TA Tn Tc,.slice DA Dn Dc],_] _ (fun e w'=>e=.returned (.agg #[.int .i64 (max t.lo (r.day+1)),.int .i64 (l.rc.foldl (refHi kn r t.lv) t.hi)])∧Below w.heap.size w w')
 have HR:Hid (Rcs w w.heap.size rA rn l.rc):=by show Sq _ _ _ _ _ _ _;exact hd.r
 have HT:Hid (Rts w w.heap.size tA Tn l.rt):=by show Sq _ _ _ _ _ _ _;exact hd.t
 have HB:Hid (Sq QB 1 w w.heap.size TA Tn T):=by show Sq _ _ _ _ _ _ _;exact hT
 have hrn6:rn≤1000000:=by have h:=HR.out.len;have h2:=hl.rn;omega
 have htn6:Tn≤1000000:=by have h:=HT.out.len;have h2:=hl.tn;omega
 have HRL:Hid (l.rc.length=rn):=by show _=_;exact HR.out.len
 have hi:i<Tn:=by rw [← HT.out.len];exact (List.getElem?_eq_some_iff.1 ht).1
 have hixr:ix<rn:=by rw [← HR.out.len];exact (List.getElem?_eq_some_iff.1 hr).1
 obtain ⟨bb,ob,tb,rfl,hbb,hxb,q0⟩:=HB.out.at_ hi
 obtain rfl:true=tb:=Option.some.inj (hti.symm.trans hxb)
 have q0:w.cell? ⟨bb,ob+i,none⟩=some (.bool true):=by have h:w.cell? ⟨bb,ob+i*1,none⟩=some (.bool true):=q0;rwa [Nat.mul_one] at h
 obtain ⟨bt,ot,t',rfl,hbt,hxt,A2,n2,c2,⟨h0,h1,h2,h3,h4,h5,h6,h7⟩,hi2,hc2,hm2⟩:=HT.out.at_ hi
 obtain rfl:t=t':=Option.some.inj (ht.symm.trans hxt)
 obtain ⟨bx,ox,r',rfl,hbx,hxr,A1,n1,c1,⟨g0,g1,g2,g3,g4,g5,g6⟩,gi,gc,gm⟩:=HR.out.at_ hixr
 obtain rfl:r=r':=Option.some.inj (hr.symm.trans hxr)
 have hday:=(hl.rc r (List.mem_of_getElem? hr)).2.2.2
 have hd1:0≤r.day:=hday.1
 have hd2:r.day≤1000000:=by omega
 have hn2:n2≤9223372036854775807:=by have:maxLen≤9223372036854775807:=(by decide);omega
 have HQ:Hid (ixI (rcIx l.rc t.rcp kn)=(ix:Int)):=by show _=_;rw [show rcIx l.rc t.rcp kn=some ix from hix];rfl
 have HREC:Hid (∀ W:World,Below w.heap.size w W→Calls Tryz.prog 116 #[.agg #[.slice pA pn pc,.slice (some ⟨bx,ox,none⟩) rn rc,.slice (some ⟨bt,ot,none⟩) Tn tc,.slice sA sn sc],.int .i64 t.rcp,.int .i64 kn] W fun e w'=>e=.returned (.int .i64 (ix:Int))∧Below W.heap.size W w'):=by
  show ∀ _,_
  exact fun W hW=>r_receiptOf_v l ⟨pA,pn,pc,some ⟨bx,ox,none⟩,rn,rc,some ⟨bt,ot,none⟩,Tn,tc,sA,sn,sc⟩ t.rcp kn ix W hrn6 (hd.now hW) HQ.out
 have HIS:Hid (∀ (W:World) (i:Nat) (u:Rcp) (f:Int) (q:Bool),Below w.heap.size w W→l.rc[i]?=some u→(countsB u.kn u.un kn && isOfB r.pap f u)=q→Calls Tryz.prog 169 #[.agg #[.slice pA pn pc,.slice (some ⟨bx,ox,none⟩) rn rc,.slice (some ⟨bt,ot,none⟩) Tn tc,.slice sA sn sc,.int .i64 kn,.slice (some ⟨bb,ob,none⟩) Tn Tc,.slice DA Dn Dc],.int .i64 i,.agg #[.int .i64 r.pap,.int .i64 f]] W fun e w'=>e=.returned (.bool q)∧Below W.heap.size W w'):=by
  show ∀ _,_
  exact fun W i u f q hW h1 h2=>r_isOf_v l ⟨⟨pA,pn,pc,some ⟨bx,ox,none⟩,rn,rc,some ⟨bt,ot,none⟩,Tn,tc,sA,sn,sc⟩,kn,some ⟨bb,ob,none⟩,Tn,Tc,DA,Dn,Dc⟩ i u r.pap f q W hrn6 (hd.now hW) h1 h2
 have HI2:=hd_ hi2
 obtain ⟨m,hm⟩:∃ m,max t.lo (r.day+1)=m:=⟨_,rfl⟩
 obtain ⟨z,hz⟩:∃ z,l.rc.foldl (refHi kn r t.lv) t.hi=z:=⟨_,rfl⟩
 rw [hm,hz]
 have HM:=hd_ hm
 have HZ:=hd_ hz
 clear hd hl hT hti ht hix hr hxb hxt hxr hday hm hz hi2 gi
 go_enter Tryz.func192,Tryz.ntmps192
 go_wp2_with fail
 refine wp_named2 fun f1 W4 hf1 hW4=>?_
 have bV:BoxA W4 w.heap.size 127 #[.slice pA pn pc,.slice (some ⟨bx,ox,none⟩) rn rc,.slice (some ⟨bt,ot,none⟩) Tn tc,.slice sA sn sc,.int .i64 kn,.slice (some ⟨bb,ob,none⟩) Tn Tc,.slice DA Dn Dc]:=by (rw [← hW4];simp only [boxed_iff,boxa_iff,alloc_get,drew_heap,World.size_alloc];(repeat (first | rw [if_pos trivial] | rw [if_pos (by omega)] | rw [if_neg (by omega)])))
 have bO:BoxA W4 (w.heap.size+1) 34 #[.int .i64 0,.int .i64 0]:=by (rw [← hW4];simp only [boxed_iff,boxa_iff,alloc_get,drew_heap,World.size_alloc];(repeat (first | rw [if_pos trivial] | rw [if_pos (by omega)] | rw [if_neg (by omega)])))
 have bR:BoxA W4 (w.heap.size+1+1) 36 #[.int .i64 t.src,.int .i64 t.rcp,.int .i64 t.per,.slice A2 n2 c2,.int .i64 t.lo,.int .i64 t.hi,.int .i64 t.kn,.int .i64 t.un]:=by (rw [← hW4];simp only [boxed_iff,boxa_iff,alloc_get,drew_heap,World.size_alloc];(repeat (first | rw [if_pos trivial] | rw [if_pos (by omega)] | rw [if_neg (by omega)])))
 have HB4:Below w.heap.size w W4:=by rw [← hW4];exact bel_
 have hs4:=HB4.size
 have d0:=(HB4.cell (p:=⟨bx,ox+ix*7,none⟩) hbx).trans g0
 have d1:=(HB4.cell (p:=⟨bx,ox+ix*7+1,none⟩) hbx).trans g1
 have d2:=(HB4.cell (p:=⟨bx,ox+ix*7+2,none⟩) hbx).trans g2
 have d3:=(HB4.cell (p:=⟨bx,ox+ix*7+3,none⟩) hbx).trans g3
 have d4:=(HB4.cell (p:=⟨bx,ox+ix*7+4,none⟩) hbx).trans g4
 have d5:=(HB4.cell (p:=⟨bx,ox+ix*7+5,none⟩) hbx).trans g5
 have d6:=(HB4.cell (p:=⟨bx,ox+ix*7+6,none⟩) hbx).trans g6
 have hbx4:bx<W4.heap.size:=by omega
 clear hW4 g0 g1 g2 g3 g4 g5 g6
 have kV:=bV.cell
 have zV:=bV.lt
 have kR:=bR.cell
 have zR:=bR.lt
 have HBV:=hd_ bV
 have HBO:=hd_ bO
 have HBR:=hd_ bR
 clear bV bO bR
 refine wp_cut2 (fun a' W'=>∃ B9,a'={ tmps:=(((((((((((((f1.tmps.setIfInBounds 23 (.pointer (some ⟨w.heap.size,0,none⟩))).setIfInBounds 24 (.pointer (some ⟨w.heap.size,1,none⟩))).setIfInBounds 25 (.slice (some ⟨bx,ox,none⟩) rn rc)).setIfInBounds 26 (.pointer (some ⟨w.heap.size,0,none⟩))).setIfInBounds 27 (.agg #[.slice pA pn pc,.slice (some ⟨bx,ox,none⟩) rn rc,.slice (some ⟨bt,ot,none⟩) Tn tc,.slice sA sn sc])).setIfInBounds 28 (.pointer (some ⟨w.heap.size+1+1,1,none⟩))).setIfInBounds 29 (.int .i64 t.rcp)).setIfInBounds 30 (.pointer (some ⟨w.heap.size,4,none⟩))).setIfInBounds 31 (.int .i64 kn)).setIfInBounds 32 (.int .i64 (ix:Int))).setIfInBounds 33 (.pointer (some ⟨bx,ox+ix*7,none⟩))).setIfInBounds 34 (.agg #[.int .i64 r.src,.int .i64 r.bor,.int .i64 r.pap,.slice A1 n1 c1,.int .i64 r.day,.int .i64 r.kn,.int .i64 r.un])).setIfInBounds 6 (.pointer (some ⟨B9,0,none⟩))),defers:=[] }∧BoxA W' B9 32 #[.int .i64 r.src,.int .i64 r.bor,.int .i64 r.pap,.slice A1 n1 c1,.int .i64 r.day,.int .i64 r.kn,.int .i64 r.un]∧Below W4.heap.size W4 W'∧W4.heap.size≤B9) ?reg4 ?rest4
 case reg4 =>
  subst hf1
  (refine wp_region_bsink 13 (by kernel_rfl) rfl rfl (by kernel_rfl) (by kernel_rfl) (fun hS=>?_);simp only [List.take_succ_cons,List.take_zero,List.reduceReplicate,Array.replicate_succ,Array.replicate_zero])
  (refine tk_ (i:=0) (v:=?_) rfl ?_ hS ?_;rotate_left;focus (intro w2 hw2;obtain ⟨hc2,hf2⟩:=bcell hw2;go_simp;first | done | with_reducible rfl);(try simp only [Act.put,pu1,pu2,pu3]))
  (refine tk_ (i:=1) (v:=?_) rfl ?_ hS ?_;rotate_left;focus (intro w2 hw2;obtain ⟨hc2,hf2⟩:=bcell hw2;go_simp;first | done | with_reducible rfl);(try simp only [Act.put,pu1,pu2,pu3]))
  (refine tk_ (i:=2) (v:=?_) rfl ?_ hS ?_;rotate_left;focus (intro w2 hw2;obtain ⟨hc2,hf2⟩:=bcell hw2;go_simp;first | done | with_reducible rfl);(try simp only [Act.put,pu1,pu2,pu3]))
  (refine tk_ (i:=3) (v:=?_) rfl ?_ hS ?_;rotate_left;focus (intro w2 hw2;obtain ⟨hc2,hf2⟩:=bcell hw2;go_simp;first | done | with_reducible rfl);(try simp only [Act.put,pu1,pu2,pu3]))
  (refine tk_ (i:=4) (v:=?_) rfl ?_ hS ?_;rotate_left;focus (intro w2 hw2;obtain ⟨hc2,hf2⟩:=bcell hw2;go_simp;first | done | with_reducible rfl);(try simp only [Act.put,pu1,pu2,pu3]))
  (refine tk_ (i:=5) (v:=?_) rfl ?_ hS ?_;rotate_left;focus (intro w2 hw2;obtain ⟨hc2,hf2⟩:=bcell hw2;go_simp;first | done | with_reducible rfl);(try simp only [Act.put,pu1,pu2,pu3]))
  (refine tk_ (i:=6) (v:=?_) rfl ?_ hS ?_;rotate_left;focus (intro w2 hw2;obtain ⟨hc2,hf2⟩:=bcell hw2;go_simp;first | done | with_reducible rfl);(try simp only [Act.put,pu1,pu2,pu3]))
  (refine tk_ (i:=7) (v:=?_) rfl ?_ hS ?_;rotate_left;focus (intro w2 hw2;obtain ⟨hc2,hf2⟩:=bcell hw2;go_simp;first | done | with_reducible rfl);(try simp only [Act.put,pu1,pu2,pu3]))
  (refine tk_ (i:=8) (v:=?_) rfl ?_ hS ?_;rotate_left;focus (intro w2 hw2;obtain ⟨hc2,hf2⟩:=bcell hw2;go_simp;first | done | with_reducible rfl);(try simp only [Act.put,pu1,pu2,pu3]))
  refine rd_ [9,12] ?_
  refine AllReadyH.cons rfl (fun K hK=>?_) (AllReadyH.cons rfl (fun K hK=>?_) AllReadyH.nil)
  ·(go_simp;go_at_call 116;refine (HREC.out _ (by exact bel_)).mono ?_;rintro e w6 ⟨rfl,hb6⟩;go_simp)
   have h6:Below W4.heap.size W4 w6:=bt_ hS hb6
   refine hK.out _ _ h6 (fun hS=>?_)
   clear hK K
   (try simp only [Act.put,pu1,pu2,pu3])
   (refine tk_ (i:=10) (v:=?_) rfl ?_ hS ?_;rotate_left;focus (intro w2 hw2;obtain ⟨hc2,hf2⟩:=bcell hw2;go_simp;first | done | with_reducible rfl);(try simp only [Act.put,pu1,pu2,pu3]))
   (refine tk_ (i:=11) (v:=?_) rfl ?_ hS ?_;rotate_left;focus (intro w2 hw2;obtain ⟨hc2,hf2⟩:=bcell hw2;go_simp;first | done | with_reducible rfl);(try simp only [Act.put,pu1,pu2,pu3]))
   (refine rd_ [12] ?_;refine ah1 rfl fun K hK=>?_;(go_simp);refine hK.out _ _ (h6.alloc h6.size _) (fun hS=>?_);clear hK K;(try simp only [Act.put,pu1,pu2,pu3]))
   refine wpAnyH_done (by kernel_rfl) ?_ _
   simp only [sinkQ]
   have b9:=BoxA.new w6 32 #[.int .i64 0,.int .i64 0,.int .i64 0,.slice none 0 0,.int .i64 0,.int .i64 0,.int .i64 0]
   have c9:=b9.cell
   have z9:=b9.lt
   have f9:=b9.frozen
   go_simp
   exact ⟨_,rfl,BoxA.new w6 _ _,h6.alloc h6.size _,h6.size⟩
  ·go_simp
   have h5:Below W4.heap.size W4 (W4.drew.alloc (.cells #[.int .i64 0,.int .i64 0,.int .i64 0,.slice none 0 0,.int .i64 0,.int .i64 0,.int .i64 0] 32)):=hS.alloc hS.size _
   refine hK.out _ _ h5 (fun hS=>?_)
   clear hK K
   (try simp only [Act.put,pu1,pu2,pu3])
   have b7:BoxA (W4.drew.alloc (.cells #[.int .i64 0,.int .i64 0,.int .i64 0,.slice none 0 0,.int .i64 0,.int .i64 0,.int .i64 0] 32)) W4.heap.size 32 #[.int .i64 0,.int .i64 0,.int .i64 0,.slice none 0 0,.int .i64 0,.int .i64 0,.int .i64 0]:=BoxA.new W4.drew _ _
   refine rd_ [9] ?_
   refine ah1 rfl fun K hK=>?_
   (go_simp;go_at_call 116;refine (HREC.out _ (HB4.trans (h5.mono hs4))).mono ?_;rintro e w6 ⟨rfl,hb6⟩;go_simp)
   have h6:Below W4.heap.size W4 w6:=bt_ h5 hb6
   refine hK.out _ _ h6 (fun hS=>?_)
   clear hK K
   (try simp only [Act.put,pu1,pu2,pu3])
   (refine tk_ (i:=10) (v:=?_) rfl ?_ hS ?_;rotate_left;focus (intro w2 hw2;obtain ⟨hc2,hf2⟩:=bcell hw2;go_simp;first | done | with_reducible rfl);(try simp only [Act.put,pu1,pu2,pu3]))
   (refine tk_ (i:=11) (v:=?_) rfl ?_ hS ?_;rotate_left;focus (intro w2 hw2;obtain ⟨hc2,hf2⟩:=bcell hw2;go_simp;first | done | with_reducible rfl);(try simp only [Act.put,pu1,pu2,pu3]))
   refine wpAnyH_done (by kernel_rfl) ?_ _
   simp only [sinkQ]
   have b9:=b7.ext hb6
   have c9:=b9.cell
   have z9:=b9.lt
   have f9:=b9.frozen
   go_simp
   exact ⟨_,rfl,b9.set7 _ _ _ _ _ _ _,((((((h6.setCell lr_ _).setCell lr_ _).setCell lr_ _).setCell lr_ _).setCell lr_ _).setCell lr_ _).setCell lr_ _,lr_⟩
 case rest4 =>
  subst hf1
  rintro a' W5 ⟨BX,rfl,bX,h5,l5⟩
  simp only [List.setIfInBounds_toArray,List.set_cons_zero,List.set_cons_succ]
  clear d0 d1 d2 d3 d4 d5 d6 kV zV kR zR
  have HB5:Below w.heap.size w W5:=HB4.trans (h5.mono hs4)
  have hs5:=HB5.size
  have bV5:=HBV.out.ext h5
  have bO5:=HBO.out.ext h5
  have bR5:=HBR.out.ext h5
  have hz4:w.heap.size+1+1<W4.heap.size:=HBR.out.lt
  have kR:=bR5.cell
  have zR:=bR5.lt
  have kX:=bX.cell
  have zX:=bX.lt
  have HBV5:=hd_ bV5
  have HBO5:=hd_ bO5
  have HBR5:=hd_ bR5
  have HBX5:=hd_ bX
  have hXn:BX≠w.heap.size∧BX≠w.heap.size+1∧BX≠w.heap.size+1+1:=⟨by omega,by omega,by omega⟩
  have HXN:=hd_ hXn
  have h54:=h5.size
  clear bV5 bO5 bR5 bX hXn h5
  go_wp2_with fail
  refine wp_named2 fun f2 V5 hf2 hV5=>?_
  subst hV5
  refine wp_cut2 (fun a' W'=>∃ B9,a'={ tmps:=((((((((f2.tmps.setIfInBounds 35 (.agg #[.int .i64 t.src,.int .i64 t.rcp,.int .i64 t.per,.slice A2 n2 c2,.int .i64 t.lo,.int .i64 t.hi,.int .i64 t.kn,.int .i64 t.un])).setIfInBounds 36 (.agg #[.int .i64 r.src,.int .i64 r.bor,.int .i64 r.pap,.slice A1 n1 c1,.int .i64 r.day,.int .i64 r.kn,.int .i64 r.un])).setIfInBounds 37 (.int .i64 m)).setIfInBounds 38 (.pointer (some ⟨w.heap.size+1+1,4,none⟩))).setIfInBounds 39 (.pointer (some ⟨w.heap.size+1+1,5,none⟩))).setIfInBounds 40 (.int .i64 t.hi)).setIfInBounds 41 (.agg #[.int .i64 m,.int .i64 t.hi])).setIfInBounds 7 (.pointer (some ⟨B9,0,none⟩))),defers:=[] }∧BoxA W' B9 34 #[.int .i64 m,.int .i64 t.hi]∧Below W5.heap.size W5 W'∧W5.heap.size≤B9) ?reg5 ?rest5
  case reg5 =>
   subst hf2
   (refine wp_region_bsink 8 (by kernel_rfl) rfl rfl (by kernel_rfl) (by kernel_rfl) (fun hS=>?_);simp only [List.take_succ_cons,List.take_zero,List.reduceReplicate,Array.replicate_succ,Array.replicate_zero])
   (refine tk_ (i:=0) (v:=?_) rfl ?_ hS ?_;rotate_left;focus (intro w2 hw2;obtain ⟨hc2,hf2⟩:=bcell hw2;go_simp;first | done | with_reducible rfl);(try simp only [Act.put,pu1,pu2,pu3]))
   (refine tk_ (i:=1) (v:=?_) rfl ?_ hS ?_;rotate_left;focus (intro w2 hw2;obtain ⟨hc2,hf2⟩:=bcell hw2;go_simp;first | done | with_reducible rfl);(try simp only [Act.put,pu1,pu2,pu3]))
   (refine tk_ (i:=3) (v:=?_) rfl ?_ hS ?_;rotate_left;focus (intro w2 hw2;obtain ⟨hc2,hf2⟩:=bcell hw2;go_simp;first | done | with_reducible rfl);(try simp only [Act.put,pu1,pu2,pu3]))
   (refine tk_ (i:=4) (v:=?_) rfl ?_ hS ?_;rotate_left;focus (intro w2 hw2;obtain ⟨hc2,hf2⟩:=bcell hw2;go_simp;first | done | with_reducible rfl);(try simp only [Act.put,pu1,pu2,pu3]))
   (refine tk_ (i:=5) (v:=?_) rfl ?_ hS ?_;rotate_left;focus (intro w2 hw2;obtain ⟨hc2,hf2⟩:=bcell hw2;go_simp;first | done | with_reducible rfl);(try simp only [Act.put,pu1,pu2,pu3]))
   refine rd_ [2,7] ?_
   refine AllReadyH.cons rfl (fun K hK=>?_) (AllReadyH.cons rfl (fun K hK=>?_) AllReadyH.nil)
   ·(go_simp;go_at_call 165;refine (r_earliest_v t r m A2 A1 n2 c2 n1 c1 _ hd1 hd2 HM.out).mono ?_;rintro e w6 ⟨rfl,hb6⟩;go_simp)
    have h6:Below W5.heap.size W5 w6:=bt_ hS hb6
    refine hK.out _ _ h6 (fun hS=>?_)
    clear hK K
    (try simp only [Act.put,pu1,pu2,pu3])
    (refine tk_ (i:=6) (v:=?_) rfl ?_ hS ?_;rotate_left;focus (intro w2 hw2;obtain ⟨hc2,hf2⟩:=bcell hw2;go_simp;first | done | with_reducible rfl);(try simp only [Act.put,pu1,pu2,pu3]))
    (refine rd_ [7] ?_;refine ah1 rfl fun K hK=>?_;(go_simp);refine hK.out _ _ (h6.alloc h6.size _) (fun hS=>?_);clear hK K;(try simp only [Act.put,pu1,pu2,pu3]))
    refine wpAnyH_done (by kernel_rfl) ?_ _
    simp only [sinkQ]
    have b9:=BoxA.new w6 34 #[.int .i64 0,.int .i64 0]
    have c9:=b9.cell
    have z9:=b9.lt
    have f9:=b9.frozen
    go_simp
    exact ⟨_,rfl,BoxA.new w6 _ _,h6.alloc h6.size _,h6.size⟩
   ·go_simp
    have h5:Below W5.heap.size W5 (W5.drew.alloc (.cells #[.int .i64 0,.int .i64 0] 34)):=hS.alloc hS.size _
    refine hK.out _ _ h5 (fun hS=>?_)
    clear hK K
    (try simp only [Act.put,pu1,pu2,pu3])
    have b7:BoxA (W5.drew.alloc (.cells #[.int .i64 0,.int .i64 0] 34)) W5.heap.size 34 #[.int .i64 0,.int .i64 0]:=BoxA.new W5.drew _ _
    refine rd_ [2] ?_
    refine ah1 rfl fun K hK=>?_
    (go_simp;go_at_call 165;refine (r_earliest_v t r m A2 A1 n2 c2 n1 c1 _ hd1 hd2 HM.out).mono ?_;rintro e w6 ⟨rfl,hb6⟩;go_simp)
    have h6:Below W5.heap.size W5 w6:=bt_ h5 hb6
    refine hK.out _ _ h6 (fun hS=>?_)
    clear hK K
    (try simp only [Act.put,pu1,pu2,pu3])
    (refine tk_ (i:=6) (v:=?_) rfl ?_ hS ?_;rotate_left;focus (intro w2 hw2;obtain ⟨hc2,hf2⟩:=bcell hw2;go_simp;first | done | with_reducible rfl);(try simp only [Act.put,pu1,pu2,pu3]))
    refine wpAnyH_done (by kernel_rfl) ?_ _
    simp only [sinkQ]
    have b9:=b7.ext hb6
    have c9:=b9.cell
    have z9:=b9.lt
    have f9:=b9.frozen
    go_simp
    exact ⟨_,rfl,(b9.set 0 _).set 1 _,(h6.setCell lr_ _).setCell lr_ _,lr_⟩
  case rest5 =>
   subst hf2
   rintro a' W6 ⟨BO,rfl,bOut,h6,l6⟩
   simp only [List.setIfInBounds_toArray,List.set_cons_zero,List.set_cons_succ]
   clear kR zR kX zX
   go_wp2_with fail
   have h45:W4.heap.size≤W5.heap.size:=h54
   obtain ⟨nO1,nO2,nO3,nO4⟩:w.heap.size≠BO∧w.heap.size+1≠BO∧w.heap.size+1+1≠BO∧BX≠BO:=by
    have hx:=HBX5.out.lt
    exact ⟨by omega,by omega,by omega,by omega⟩
   have hwO:w.heap.size≤BO:=by omega
   obtain ⟨Kp,hKp⟩:∃ Kp:World→Prop,∀ W,Kp W↔(Below w.heap.size w W∧BoxA W w.heap.size 127 #[.slice pA pn pc,.slice (some ⟨bx,ox,none⟩) rn rc,.slice (some ⟨bt,ot,none⟩) Tn tc,.slice sA sn sc,.int .i64 kn,.slice (some ⟨bb,ob,none⟩) Tn Tc,.slice DA Dn Dc]∧BoxA W (w.heap.size+1) 34 #[.int .i64 0,.int .i64 0]∧BoxA W (w.heap.size+1+1) 36 #[.int .i64 t.src,.int .i64 t.rcp,.int .i64 t.per,.slice A2 n2 c2,.int .i64 t.lo,.int .i64 t.hi,.int .i64 t.kn,.int .i64 t.un]∧BoxA W BX 32 #[.int .i64 r.src,.int .i64 r.bor,.int .i64 r.pap,.slice A1 n1 c1,.int .i64 r.day,.int .i64 r.kn,.int .i64 r.un]):=⟨_,fun W=>Iff.rfl⟩
   have KE:Hid (∀ W W':World,Kp W→Below W.heap.size W W'→Kp W'):=by
    show ∀ _,_
    intro W W' h hb
    obtain ⟨h1,h2,h3,h4,h5⟩:=(hKp W).1 h
    exact (hKp W').2 ⟨bt_ h1 hb,h2.ext hb,h3.ext hb,h4.ext hb,h5.ext hb⟩
   have KS:Hid (∀ (W:World) (o:Nat) (v:Value),Kp W→Kp (W.setCell ⟨BO,o,none⟩ v)):=by
    show ∀ _,_
    intro W o v h
    obtain ⟨h1,h2,h3,h4,h5⟩:=(hKp W).1 h
    exact (hKp _).2 ⟨h1.setCell hwO v,h2.other nO1 v,h3.other nO2 v,h4.other nO3 v,h5.other nO4 v⟩
   have K6:Kp W6:=(hKp _).2 ⟨HB5.trans (h6.mono hs5),HBV5.out.ext h6,HBO5.out.ext h6,HBR5.out.ext h6,HBX5.out.ext h6⟩
   have HKP:=hd_ hKp
   have HK6:=hd_ K6
   clear hKp K6
   go_loopw [8] (fun i wr=>∃ k:Nat,k≤rn∧i=.int .i64 k∧Kp wr∧BoxA wr BO 34 #[.int .i64 m,.int .i64 ((l.rc.take k).foldl (refHi kn r t.lv) t.hi)]) (fun i _=>rn - (intOf i).toNat)
   case atStart=>exact ⟨0,by omega,rfl,HK6.out,bOut⟩
   case round =>
    obtain ⟨k,hk,rfl,hKw,hbO⟩:=hrel
    obtain ⟨wz,rfl⟩:∃ wz,wz=wr:=⟨_,rfl⟩
    have HKW:=hd_ hKw
    obtain ⟨hBw,hbV,hbZ,hbR,hbX⟩:=(HKP.out wz).1 hKw
    have hsw:=hBw.size
    have kV:=hbV.cell
    have zV:=hbV.lt
    have HBOW:=hd_ hbO
    clear hKw bOut
    obtain ⟨hz,hhz⟩:∃ hz,(l.rc.take k).foldl (refHi kn r t.lv) t.hi=hz:=⟨_,rfl⟩
    rw [hhz] at HBOW hbO
    by_cases hlt:k<rn
    ·obtain ⟨bu,ou,u,eu,hbu,hux,A3,n3,c3,⟨-,-,-,-,j4,-,-⟩,-,-,-⟩:=HR.out.at_ hlt
     obtain ⟨rfl,rfl⟩:bx=bu∧ox=ou:=by simpa using eu
     have HSU:Hid ((l.rc.take (k+1)).foldl (refHi kn r t.lv) t.hi=refHi kn r t.lv hz u):=by show _=_;rw [hiR_succ hux,hhz]
     have HU:=hd_ hux
     clear hux eu hhz hbV hbZ hbR hbX hbO
     go_wp2_with fail
     go_loopw [9] (fun i wr=>∃ j:Nat,j≤n2∧i=.int .i64 j∧Kp wr∧BoxA wr BO 34 #[.int .i64 m,.int .i64 (refHi kn r (t.lv.take j) hz u)]) (fun i _=>n2 - (intOf i).toNat)
     case atStart=>exact ⟨0,by omega,rfl,HKW.out,HBOW.out⟩
     case round =>
      obtain ⟨j,hj,rfl,hKr,hbOr⟩:=hrel
      have HKR:=hd_ hKr
      obtain ⟨hBr,hbVr,hbZr,hbRr,hbXr⟩:=(HKP.out wr).1 hKr
      have hsr:=hBr.size
      clear kV zV
      have kV:=hbVr.cell
      have zV:=hbVr.lt
      have kR:=hbRr.cell
      have zR:=hbRr.lt
      have kX:=hbXr.cell
      have zX:=hbXr.lt
      clear hKr hbVr hbZr hbRr hbXr
      obtain ⟨hq,hhq⟩:∃ hq,refHi kn r (t.lv.take j) hz u=hq:=⟨_,rfl⟩
      rw [hhq] at hbOr
      by_cases hjl:j<n2
      ·obtain ⟨by_,oy,y,rfl,hby,hy,hcy⟩:=HI2.out.at_ hjl
       have cy:=(hBr.cell (p:=⟨by_,oy+j,none⟩) hby).trans hcy
       have u4:=(hBr.cell (p:=⟨bx,ox+k*7+4,none⟩) hbx).trans j4
       have hbyr:by_<wr.heap.size:=by omega
       have hbxr:bx<wr.heap.size:=by omega
       have HSS:=hd_ (refHi_succ (kn:=kn) (r:=r) (h:=hz) (u:=u) hy)
       have HHQ:=hd_ hhq
       have HBOR:=hd_ hbOr
       clear hy hcy hhq hbOr
       cases hd:decide (u.day>r.day) with
       | false =>
         have HN:Hid (refHi kn r (t.lv.take (j+1)) hz u=hq):=by show _=_;rw [HSS.out,if_neg (by have h:=of_decide_eq_false hd;intro h2;exact h h2.1),HHQ.out]
         go_wp2_with fail
         (refine rg_ ?_;(repeat (go_big_quiet_step (fail)));refine qn_ fun w1 hb1 hc1 hf1=>?_)
         go_wp2_with fail
         go_roundw
         case rel=>exact ⟨j+1,by omega,by go_num,KE.out _ _ HKR.out hb1,by rw [HN.out];exact HBOR.out.ext hb1⟩
         case measure=>exact ms_
       | true =>
         cases hi:(countsB u.kn u.un kn && isOfB r.pap y u) with
         | false =>
           have HN:Hid (refHi kn r (t.lv.take (j+1)) hz u=hq):=by show _=_;rw [HSS.out,if_neg (by rw [hi];simp),HHQ.out]
           have HI:=hd_ hi
           clear hi
           go_wp2_with fail
           (refine rg_ ?_;(repeat (go_big_quiet_step ((first | (go_at_call_of 169 (Value.agg #[.slice pA pn pc,.slice (some ⟨bx,ox,none⟩) rn rc,.slice (some ⟨bt,ot,none⟩) Tn tc,.slice sA sn sc,.int .i64 kn,.slice (some ⟨bb,ob,none⟩) Tn Tc,.slice DA Dn Dc]);exact Calls.grow_all (fun g=>HIS.out g.1 k u y false (bt_ hBr g.2) HU.out HI.out))))));refine qn_ fun w1 hb1 hc1 hf1=>?_)
           go_wp2_with fail
           go_roundw
           case rel=>exact ⟨j+1,by omega,by go_num,KE.out _ _ HKR.out hb1,by rw [HN.out];exact HBOR.out.ext hb1⟩
           case measure=>exact ms_
         | true =>
           have HN:Hid (refHi kn r (t.lv.take (j+1)) hz u=min hq u.day):=by show _=_;rw [HSS.out,if_pos ⟨of_decide_eq_true hd,hi⟩,HHQ.out]
           have HI:=hd_ hi
           clear hi
           go_wp2_with fail
           (refine rg_ ?_;(repeat (go_big_quiet_step ((first | (go_at_call_of 169 (Value.agg #[.slice pA pn pc,.slice (some ⟨bx,ox,none⟩) rn rc,.slice (some ⟨bt,ot,none⟩) Tn tc,.slice sA sn sc,.int .i64 kn,.slice (some ⟨bb,ob,none⟩) Tn Tc,.slice DA Dn Dc]);exact Calls.grow_all (fun g=>HIS.out g.1 k u y true (bt_ hBr g.2) HU.out HI.out))))));refine qn_ fun w1 hb1 hc1 hf1=>?_)
           have HK1:=hd_ (KE.out _ _ HKR.out hb1)
           have bO1:=HBOR.out.ext hb1
           obtain ⟨hB1,hbV1,-,-,-⟩:=(HKP.out w1).1 HK1.out
           have kO:=bO1.cell
           have zO:=bO1.lt
           have fO:=bO1.frozen
           have kV1:=hbV1.cell
           have zV1:=hbV1.lt
           have v4:=(hB1.cell (p:=⟨bx,ox+k*7+4,none⟩) hbx).trans j4
           have hs1:=hB1.size
           have hbx1:bx<w1.heap.size:=by omega
           have HBO1:=hd_ bO1
           clear hb1 hc1 hf1 kV zV kR zR kX zX u4 cy bO1 hbV1 hbxr hbyr
           go_wp2_with fail
           (refine wp_region_bsink 11 (by kernel_rfl) rfl rfl (by kernel_rfl) (by kernel_rfl) (fun hS=>?_);simp only [List.take_succ_cons,List.take_zero,List.reduceReplicate,Array.replicate_succ,Array.replicate_zero])
           (refine tk_ (i:=0) (v:=?_) rfl ?_ hS ?_;rotate_left;focus (intro w2 hw2;obtain ⟨hc2,hf2⟩:=bcell hw2;go_simp;first | done | with_reducible rfl);(try simp only [Act.put,pu1,pu2,pu3]))
           (refine tk_ (i:=1) (v:=?_) rfl ?_ hS ?_;rotate_left;focus (intro w2 hw2;obtain ⟨hc2,hf2⟩:=bcell hw2;go_simp;first | done | with_reducible rfl);(try simp only [Act.put,pu1,pu2,pu3]))
           (refine tk_ (i:=2) (v:=?_) rfl ?_ hS ?_;rotate_left;focus (intro w2 hw2;obtain ⟨hc2,hf2⟩:=bcell hw2;go_simp;first | done | with_reducible rfl);(try simp only [Act.put,pu1,pu2,pu3]))
           (refine tk_ (i:=3) (v:=?_) rfl ?_ hS ?_;rotate_left;focus (intro w2 hw2;obtain ⟨hc2,hf2⟩:=bcell hw2;go_simp;first | done | with_reducible rfl);(try simp only [Act.put,pu1,pu2,pu3]))
           (refine tk_ (i:=4) (v:=?_) rfl ?_ hS ?_;rotate_left;focus (intro w2 hw2;obtain ⟨hc2,hf2⟩:=bcell hw2;go_simp;first | done | with_reducible rfl);(try simp only [Act.put,pu1,pu2,pu3]))
           (refine tk_ (i:=5) (v:=?_) rfl ?_ hS ?_;rotate_left;focus (intro w2 hw2;obtain ⟨hc2,hf2⟩:=bcell hw2;go_simp;first | done | with_reducible rfl);(try simp only [Act.put,pu1,pu2,pu3]))
           (refine tk_ (i:=6) (v:=?_) rfl ?_ hS ?_;rotate_left;focus (intro w2 hw2;obtain ⟨hc2,hf2⟩:=bcell hw2;go_simp;first | done | with_reducible rfl);(try simp only [Act.put,pu1,pu2,pu3]))
           (refine tk_ (i:=7) (v:=?_) rfl ?_ hS ?_;rotate_left;focus (intro w2 hw2;obtain ⟨hc2,hf2⟩:=bcell hw2;go_simp;first | done | with_reducible rfl);(try simp only [Act.put,pu1,pu2,pu3]))
           (refine tk_ (i:=8) (v:=?_) rfl ?_ hS ?_;rotate_left;focus (intro w2 hw2;obtain ⟨hc2,hf2⟩:=bcell hw2;go_simp;first | done | with_reducible rfl);(try simp only [Act.put,pu1,pu2,pu3]))
           (refine tk_ (i:=9) (v:=?_) rfl ?_ hS ?_;rotate_left;focus (intro w2 hw2;obtain ⟨hc2,hf2⟩:=bcell hw2;go_simp;first | done | with_reducible rfl);(try simp only [Act.put,pu1,pu2,pu3]))
           (refine tk_ (i:=10) (v:=?_) rfl ?_ hS ?_;rotate_left;focus (intro w2 hw2;obtain ⟨hc2,hf2⟩:=bcell hw2;go_simp;first | done | with_reducible rfl);(try simp only [Act.put,pu1,pu2,pu3]))
           refine wpAnyH_done (by kernel_rfl) ?_ _
           simp only [sinkQ]
           go_simp
           go_wp2_with fail
           go_roundw
           case rel=>exact ⟨j+1,by omega,by go_num,KE.out _ _ (KS.out _ _ _ HK1.out) ((Below.refl _ _).drew),by rw [HN.out];exact HBO1.out.set 1 _⟩
           case measure=>exact ms_
      ·have HN:Hid (refHi kn r t.lv hz u=hq):=by
        show _=_
        rw [← hhq,List.take_of_length_le (by rw [HI2.out.len];omega)]
       have HBOR:=hd_ hbOr
       clear hbOr hhq
       go_wp2_with fail
       go_roundw
       case rel=>exact ⟨k+1,by omega,by go_num,HKR.out,by rw [HSU.out,HN.out];exact HBOR.out⟩
       case measure=>exact ms_
    ·have HN:Hid (z=hz):=by
      show _=_
      rw [← HZ.out,← hhz,List.take_of_length_le (by rw [HRL.out];omega)]
     have hn:=HN.out
     subst hn
     have kO:=hbO.cell
     have zO:=hbO.lt
     have kZ:=hbZ.cell
     have zZ:=hbZ.lt
     have fZ:=hbZ.frozen
     clear hbV hbR hbX hhz
     have HBZ:=hd_ hbZ
     clear hbO hbZ
     go_wp2_with fail
     refine bodyPost_ret (v:=.agg #[.int .i64 m,.int .i64 z]) ?_ rfl ?_
     ·(simp [results,Tryz.f192,go_sem];try go_simp)
     ·exact ⟨rfl,by exact bel_⟩
end Go.Proofs.YtoiompoapikkbaaGreat
