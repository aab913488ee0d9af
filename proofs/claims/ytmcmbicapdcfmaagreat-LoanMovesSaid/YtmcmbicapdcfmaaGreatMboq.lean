/- Layer 2 of the texts that LoanMoves takes: Mboq. -/
import Derived.Test.YtmcmbicapdcfmaaGreatMbnq
set_option linter.unusedVariables false
set_option linter.unusedSimpArgs false
set_option maxHeartbeats 16000000
namespace Go.Proofs.YtmcmbicapdcfmaaGreat
open Go.RowKit Go.Maps
def SW (b1 b2:Nat) (c1 c2:Array Value) (b o:Nat) (ec:List Value) (V:World):Prop:=S1 b1 b2 c1 c2 V∧b<V.heap.size∧∀ m u,ec[m]?=some u→V.cell? ⟨b,o+m,none⟩=some u
theorem SW.ext {b1 b2 b o:Nat} {c1 c2:Array Value} {ec:List Value} {V V':World} (hb:Below V.heap.size V V') (h:SW b1 b2 c1 c2 b o ec V):SW b1 b2 c1 c2 b o ec V':=by
 obtain ⟨h0,h1,h2⟩:=h
 have hs:=hb.size
 exact ⟨S1.ext hb h0,by omega,fun m u hu=>(hb.cell (p:=⟨b,o+m,none⟩) h1).trans (h2 m u hu)⟩
theorem SW.grownR {b1 b2 b o:Nat} {row:Option Nat} {c1 c2:Array Value} {ec:List Value} {V V':World} (hg:V.grownBy V' row) (h:SW b1 b2 c1 c2 b o ec V) (n1:some b1≠row) (n2:some b2≠row) (n3:some b≠row):SW b1 b2 c1 c2 b o ec V':=by
 obtain ⟨h0,h1,h2⟩:=h
 have hs:=hg.size
 have e3:=hg.block b h1 n3
 exact ⟨S1.grownR hg h0 n1 n2,by omega,fun m u hu=>by rw [← h2 m u hu];simp [World.cell?,e3]⟩
theorem elemAt {W:World} {B s n:Nat} {A:Option Addr} {α:Type} {f:α→List Value} {xs:List α} (h:Rd W B s A n (xs.flatMap f)) (hg:∀ (xs:List α) (k j:Nat) (x:α),xs[k]?=some x→j<s→(xs.flatMap f)[k*s+j]?=(f x)[j]?) (hl:∀ x,(f x).length=s) {k:Nat} {z:α} (hz:xs[k]?=some z) (hk:k<n) :
 ∃ b o,A=some ⟨b,o,none⟩∧b<B∧∀ m u,(f z)[m]?=some u→W.cell? ⟨b,o+k*s+m,none⟩=some u:=by
 obtain ⟨b,o,e,hb,hc⟩:=h.2 (by omega)
 refine ⟨b,o,e,hb,fun m u hu=>?_⟩
 have hm:m<s:=by rw [← hl z];exact (List.getElem?_eq_some_iff.1 hu).1
 have h1:=hc (k*s+m) u (by rw [hg xs k m z hz hm];exact hu)
 rwa [← Nat.add_assoc] at h1
structure WoI (w wv W:World) (q:Nat) (OC:Array Value) (a b c:Nat × Value × List Value):Prop where
 bel:Below w.heap.size w W
 keep:∀ k,k<wv.heap.size→k≠q→W.heap[k]?=wv.heap[k]?
 sz:wv.heap.size≤W.heap.size
 bO:BoxA W q 32 OC
 r:W.ownsRow wv.heap.size 79 7 a.2.1 a.1 a.2.2
 t:W.ownsRow wv.heap.size 75 8 b.2.1 b.1 b.2.2
 s:W.ownsRow wv.heap.size 70 7 c.2.1 c.1 c.2.2
theorem WoI.appR {w wv wr w5 w6:World} {q:Nat} {OC:Array Value} {a b c:Nat × Value × List Value} {n2:Nat} {v2:Value} {x2:List Value} (h:WoI w wv wr q OC a b c) (hq:w.heap.size≤q∧q<wv.heap.size) (hwv:w.heap.size≤wv.heap.size) (h5:Below wr.heap.size wr w5) (ho6:w6.ownsRow wv.heap.size 79 7 v2 n2 x2) (hg6:w5.grownBy w6 a.2.1.ownBlock) (u:Value):WoI w wv (w6.setCell ⟨q,1,none⟩ u) q (OC.setIfInBounds 1 u) (n2,v2,x2) b c:=by
 have h5o:=own_ex h.r h5
 have hbO:BoxA w6 q 32 OC:=(h.bO.ext h5).kept hg6 (own_ne h5o (h.bO.ext h5) (by decide))
 have hs:=grown_setCell w6 q 1 u
 have hsz:=h.sz
 have hsz5:=h5.size
 have hsz6:=hg6.size
 refine ⟨?_,fun k hk hne=>?_,by simp;omega,hbO.set 1 u,(ho6.kept hs (.inr fun e=>own_ne ho6 (hbO) (by decide) e.symm)),((own_other (own_ex h.t h5) (own_ex h.r h5) (by decide) hg6).kept hs (.inr fun e=>own_ne (own_other (own_ex h.t h5) (own_ex h.r h5) (by decide) hg6) hbO (by decide) e.symm)),((own_other (own_ex h.s h5) (own_ex h.r h5) (by decide) hg6).kept hs (.inr fun e=>own_ne (own_other (own_ex h.s h5) (own_ex h.r h5) (by decide) hg6) hbO (by decide) e.symm))⟩
 ·have h1:Below w.heap.size w w5:=h.bel.trans (h5.mono h.bel.size)
  have h2:Below w.heap.size w w6:=h1.grown hg6 h1.size fun k ek=>Nat.le_trans hwv (own_le h5o ek)
  exact h2.setCell hq.1 _
 ·have e1:(w6.setCell ⟨q,1,none⟩ u).heap[k]?=w6.heap[k]?:=hs.block k (by omega) (fun e=>hne (by injection e))
  have e2:w6.heap[k]?=w5.heap[k]?:=hg6.block k (by omega) (fun e=>by have:=own_le h5o e.symm;omega)
  have e3:w5.heap[k]?=wr.heap[k]?:=h5.block k (by omega)
  rw [e1,e2,e3]
  exact h.keep k hk hne
theorem WoI.appT {w wv wr w5 w6:World} {q:Nat} {OC:Array Value} {a b c:Nat × Value × List Value} {n2:Nat} {v2:Value} {x2:List Value} (h:WoI w wv wr q OC a b c) (hq:w.heap.size≤q∧q<wv.heap.size) (hwv:w.heap.size≤wv.heap.size) (h5:Below wr.heap.size wr w5) (ho6:w6.ownsRow wv.heap.size 75 8 v2 n2 x2) (hg6:w5.grownBy w6 b.2.1.ownBlock) (u:Value):WoI w wv (w6.setCell ⟨q,2,none⟩ u) q (OC.setIfInBounds 2 u) a (n2,v2,x2) c:=by
 have h5o:=own_ex h.t h5
 have hbO:BoxA w6 q 32 OC:=(h.bO.ext h5).kept hg6 (own_ne h5o (h.bO.ext h5) (by decide))
 have hs:=grown_setCell w6 q 2 u
 have hsz:=h.sz
 have hsz5:=h5.size
 have hsz6:=hg6.size
 refine ⟨?_,fun k hk hne=>?_,by simp;omega,hbO.set 2 u,((own_other (own_ex h.r h5) (own_ex h.t h5) (by decide) hg6).kept hs (.inr fun e=>own_ne (own_other (own_ex h.r h5) (own_ex h.t h5) (by decide) hg6) hbO (by decide) e.symm)),(ho6.kept hs (.inr fun e=>own_ne ho6 (hbO) (by decide) e.symm)),((own_other (own_ex h.s h5) (own_ex h.t h5) (by decide) hg6).kept hs (.inr fun e=>own_ne (own_other (own_ex h.s h5) (own_ex h.t h5) (by decide) hg6) hbO (by decide) e.symm))⟩
 ·have h1:Below w.heap.size w w5:=h.bel.trans (h5.mono h.bel.size)
  have h2:Below w.heap.size w w6:=h1.grown hg6 h1.size fun k ek=>Nat.le_trans hwv (own_le h5o ek)
  exact h2.setCell hq.1 _
 ·have e1:(w6.setCell ⟨q,2,none⟩ u).heap[k]?=w6.heap[k]?:=hs.block k (by omega) (fun e=>hne (by injection e))
  have e2:w6.heap[k]?=w5.heap[k]?:=hg6.block k (by omega) (fun e=>by have:=own_le h5o e.symm;omega)
  have e3:w5.heap[k]?=wr.heap[k]?:=h5.block k (by omega)
  rw [e1,e2,e3]
  exact h.keep k hk hne
theorem WoI.appS {w wv wr w5 w6:World} {q:Nat} {OC:Array Value} {a b c:Nat × Value × List Value} {n2:Nat} {v2:Value} {x2:List Value} (h:WoI w wv wr q OC a b c) (hq:w.heap.size≤q∧q<wv.heap.size) (hwv:w.heap.size≤wv.heap.size) (h5:Below wr.heap.size wr w5) (ho6:w6.ownsRow wv.heap.size 70 7 v2 n2 x2) (hg6:w5.grownBy w6 c.2.1.ownBlock) (u:Value):WoI w wv (w6.setCell ⟨q,3,none⟩ u) q (OC.setIfInBounds 3 u) a b (n2,v2,x2):=by
 have h5o:=own_ex h.s h5
 have hbO:BoxA w6 q 32 OC:=(h.bO.ext h5).kept hg6 (own_ne h5o (h.bO.ext h5) (by decide))
 have hs:=grown_setCell w6 q 3 u
 have hsz:=h.sz
 have hsz5:=h5.size
 have hsz6:=hg6.size
 refine ⟨?_,fun k hk hne=>?_,by simp;omega,hbO.set 3 u,((own_other (own_ex h.r h5) (own_ex h.s h5) (by decide) hg6).kept hs (.inr fun e=>own_ne (own_other (own_ex h.r h5) (own_ex h.s h5) (by decide) hg6) hbO (by decide) e.symm)),((own_other (own_ex h.t h5) (own_ex h.s h5) (by decide) hg6).kept hs (.inr fun e=>own_ne (own_other (own_ex h.t h5) (own_ex h.s h5) (by decide) hg6) hbO (by decide) e.symm)),(ho6.kept hs (.inr fun e=>own_ne ho6 (hbO) (by decide) e.symm))⟩
 ·have h1:Below w.heap.size w w5:=h.bel.trans (h5.mono h.bel.size)
  have h2:Below w.heap.size w w6:=h1.grown hg6 h1.size fun k ek=>Nat.le_trans hwv (own_le h5o ek)
  exact h2.setCell hq.1 _
 ·have e1:(w6.setCell ⟨q,3,none⟩ u).heap[k]?=w6.heap[k]?:=hs.block k (by omega) (fun e=>hne (by injection e))
  have e2:w6.heap[k]?=w5.heap[k]?:=hg6.block k (by omega) (fun e=>by have:=own_le h5o e.symm;omega)
  have e3:w5.heap[k]?=wr.heap[k]?:=h5.block k (by omega)
  rw [e1,e2,e3]
  exact h.keep k hk hne
set_option maxRecDepth 100000 in
theorem r_Without (l:Led) (x:Lsl) (src:Int) (w:World) (hl:LedOk l) (hd:LedIn w w.heap.size x l) :
 Calls Tryz.prog 37 #[.agg #[.slice x.pA x.pn x.pc,.slice x.rA x.rn x.rc,.slice x.tA x.tn x.tc,.slice x.sA x.sn x.sc],.int .i64 src] w fun e w'=>∃ y:Lsl,e=.returned (.agg #[.slice y.pA y.pn y.pc,.slice y.rA y.rn y.rc,.slice y.tA y.tn y.tc,.slice y.sA y.sn y.sc])∧Below w.heap.size w w'∧y.fit∧LedIn w' w'.heap.size y (excL l src):=by
 obtain ⟨pA,pn,pc,rA,rn,rc,tA,tn,tc,sA,sn,sc⟩:=x
 have HD:=hd_ hd
 have HLO:=hd_ hl
 have B2:=box2 w 32 32 #[.slice pA pn pc,.slice rA rn rc,.slice tA tn tc,.slice sA sn sc] #[.slice none 0 0,.slice none 0 0,.slice none 0 0,.slice none 0 0]
 have BZ0:=hd_ B2.2
 obtain ⟨iR,hiR,hz0R,hz1R,hz2R⟩:=info_parts infoClRcpt
 obtain ⟨iT,hiT,hz0T,hz1T,hz2T⟩:=info_parts infoClRetn
 obtain ⟨iS,hiS,hz0S,hz1S,hz2S⟩:=info_parts infoClSight
 clear hd hl B2
 go_enter Tryz.func37,Tryz.ntmps37
 go_wp2_with (go_at_call 100;refine (r_Copy l ⟨pA,pn,pc,rA,rn,rc,tA,tn,tc,sA,sn,sc⟩ _ HLO.out (HD.out.now (by exact bel_))).mono ?_;rintro e w1 ⟨y,XR,XT,rfl,hb1,hC,hxr,hxt⟩;obtain ⟨yp,ypn,ypc,yr,yrn,yrc,yt,ytn,ytc,ys,ysn,ysc⟩:=y;have HB1:Below w.heap.size w w1:=bt_ (by exact bel_) hb1;have hs1:=HB1.size;have HC1:=hd_ (hC.dn (show w.heap.size≤_ by simp;omega));have HZ1:=hd_ (BZ0.out.ext hb1);have HXR:=hd_ hxr;have HXT:=hd_ hxt;clear hb1 hC hxr hxt)
 have HRR:Hid (Rd w1 w1.heap.size 7 yr yrn (XR.flatMap rvC)):=by show Rd _ _ _ _ _ _;exact Rd.of_own HC1.out.r
 have HRT:Hid (Rd w1 w1.heap.size 8 yt ytn (XT.flatMap tvC)):=by show Rd _ _ _ _ _ _;exact Rd.of_own HC1.out.t
 have HRS:Hid (Rd w1 w1.heap.size 7 ys ysn (l.sg.flatMap sgC)):=by show Rd _ _ _ _ _ _;exact Rd.of_own HC1.out.s
 have HLR:Hid (XR.length=yrn):=by show _=_;exact own_len HC1.out.r (fun _=>rfl) (by omega)
 have HLT:Hid (XT.length=ytn):=by show _=_;exact own_len HC1.out.t (fun _=>rfl) (by omega)
 have HLS:Hid (l.sg.length=ysn):=by show _=_;exact own_len HC1.out.s (fun _=>rfl) (by omega)
 have hrn60:yrn≤60:=by have h1:=HLR.out;have h2:=HLO.out.rn;have h3:(XR.map Rv.r).length=l.rc.length:=by rw [HXR.out]
                       rw [List.length_map] at h3;omega
 have htn60:ytn≤60:=by have h1:=HLT.out;have h2:=HLO.out.tn;have h3:(XT.map Tv.r).length=l.rt.length:=by rw [HXT.out]
                       rw [List.length_map] at h3;omega
 have hsn60:ysn≤60:=by have h1:=HLS.out;have h2:=HLO.out.sn;omega
 obtain ⟨XS,hXS⟩:∃ X,l.sg=X:=⟨_,rfl⟩
 rw [hXS] at HRS HLS
 have HXS:=hd_ hXS
 clear hXS
 have hbx:=box2 w1 32 32 #[.slice yp ypn ypc,.slice yr yrn yrc,.slice yt ytn ytc,.slice ys ysn ysc] #[.slice yp ypn ypc,.slice none 0 0,.slice none 0 0,.slice none 0 0]
 have hwv0:Below w1.heap.size w1 ((w1.alloc (.cells #[.slice yp ypn ypc,.slice yr yrn yrc,.slice yt ytn ytc,.slice ys ysn ysc] 32)).alloc (.cells #[.slice yp ypn ypc,.slice none 0 0,.slice none 0 0,.slice none 0 0] 32)):=by exact bel_
 have hsv0:w1.heap.size+2≤((w1.alloc (.cells #[.slice yp ypn ypc,.slice yr yrn yrc,.slice yt ytn ytc,.slice ys ysn ysc] 32)).alloc (.cells #[.slice yp ypn ypc,.slice none 0 0,.slice none 0 0,.slice none 0 0] 32)).heap.size:=by simp
 have HZV:=hd_ ((HZ1.out.alloc (.cells #[.slice yp ypn ypc,.slice yr yrn yrc,.slice yt ytn ytc,.slice ys ysn ysc] 32)).alloc (.cells #[.slice yp ypn ypc,.slice none 0 0,.slice none 0 0,.slice none 0 0] 32))
 obtain ⟨wv,hwv1⟩:∃ wv,(w1.alloc (.cells #[.slice yp ypn ypc,.slice yr yrn yrc,.slice yt ytn ytc,.slice ys ysn ysc] 32)).alloc (.cells #[.slice yp ypn ypc,.slice none 0 0,.slice none 0 0,.slice none 0 0] 32)=wv:=⟨_,rfl⟩
 rw [hwv1] at hbx hwv0 hsv0 HZV
 (try rw [hwv1])
 have HBX:=hd_ hbx.1
 have HBO:=hd_ hbx.2
 have HWV:=hd_ hwv0
 have HBW:Below w.heap.size w wv:=HB1.trans (hwv0.mono hs1)
 have hwv:=HBW.size
 have hqq:w.heap.size≤w1.heap.size+1∧w1.heap.size+1<wv.heap.size:=⟨by omega,by omega⟩
 clear hbx hwv0 hwv1
 go_loopw [7] (fun i wr=>∃ k:Nat,k≤yrn∧i=.int .i64 k∧∃ AR mR cR,WoI w wv wr (w1.heap.size+1) #[.slice yp ypn ypc,.slice AR mR cR,.slice none 0 0,.slice none 0 0] (mR,.slice AR mR cR,((XR.take k).filter (fun z=>!(z.r.src == src))).flatMap rvC) (0,.slice none 0 0,[]) (0,.slice none 0 0,[])) (fun i _=>yrn - (intOf i).toNat)
 case atStart=>exact ⟨0,by omega,rfl,none,0,0,⟨HBW,fun _ _ _=>rfl,lr_,HBO.out,World.ownsRow_nil _ _ _ _,World.ownsRow_nil _ _ _ _,World.ownsRow_nil _ _ _ _⟩⟩
 case round =>
  obtain ⟨k,hk,rfl,AR,mR,cR,hI⟩:=hrel
  have HI:=hd_ hI
  have hsz:=hI.sz
  have bX:BoxA wr w1.heap.size 32 #[.slice yp ypn ypc,.slice yr yrn yrc,.slice yt ytn ytc,.slice ys ysn ysc]:=(hI.keep _ (by omega) (by omega)).trans HBX.out
  have bO:=hI.bO
  have kX:=bX.cell
  have zX:=bX.lt
  have kO:=bO.cell
  have zO:=bO.lt
  have HX:=hd_ bX
  have HOB:=hd_ bO
  clear hI bX bO
  by_cases hlt:k<yrn
  ·obtain ⟨z,hz⟩:∃ z,XR[k]?=some z:=⟨_,List.getElem?_eq_getElem (by rw [HLR.out];exact hlt)⟩
   obtain ⟨b,o,hA,hb,hec⟩:=elemAt HRR.out (flat_get rvC 7 (fun _=>rfl)) (fun _=>rfl) hz hlt
   have hbq:b≠w1.heap.size+1:=by omega
   have hb1:b<wv.heap.size:=by omega
   have hbr:b<wr.heap.size:=by omega
   have hec2:∀ m u,(rvC z)[m]?=some u→wr.cell? ⟨b,o+k*7+m,none⟩=some u:=fun m u hu=>by
    have h1:=hec m u hu
    rw [← h1]
    simp only [World.cell?,HI.out.keep b hb1 hbq,HWV.out.block b hb]
   subst hA
   have g0:=hec2 0 _ rfl
   simp only [Nat.add_zero] at g0
   have HEC:=hd_ hec2
   cases hs:(z.r.src == src) with
   | true =>
     have HN:Hid ((XR.take (k+1)).filter (fun z=>!(z.r.src == src))=(XR.take k).filter (fun z=>!(z.r.src == src))):=by show _=_;rw [take_snoc_some hz,List.filter_append];simp [hs]
     have hs2:(z.r.src != src)=false:=by simpa using hs
     clear hs hec hec2 hz
     go_wp2_with fail
     go_roundw
     case rel=>exact ⟨k+1,by omega,by go_num,AR,mR,cR,by rw [HN.out];exact HI.out⟩
     case measure=>exact ms_
   | false =>
     have HN:Hid ((XR.take (k+1)).filter (fun z=>!(z.r.src == src))=(XR.take k).filter (fun z=>!(z.r.src == src)) ++ [z]):=by show _=_;rw [take_snoc_some hz,List.filter_append];simp [hs]
     have hs2:(z.r.src != src)=true:=by simpa using hs
     clear hs hec hec2 hz
     go_wp2_with fail
     clear g0
     (refine wp_region_sink_lit (S:=SW w1.heap.size (w1.heap.size+1) #[.slice yp ypn ypc,.slice (some ⟨b,o,none⟩) yrn yrc,.slice yt ytn ytc,.slice ys ysn ysc] #[.slice yp ypn ypc,.slice AR mR cR,.slice none 0 0,.slice none 0 0] b (o+k*7) (rvC z)) 10 (by kernel_rfl) rfl rfl (by kernel_rfl) (by kernel_rfl) ⟨⟨HX.out.cell,HOB.out.cell,HX.out.lt,HOB.out.lt⟩,hbr,HEC.out⟩ (fun hS=>?_);simp only [List.take_succ_cons,List.take_zero,List.reduceReplicate,Array.replicate_succ,Array.replicate_zero])
     (refine wpAnyH_take (i:=0) (v:=?_) rfl (by kernel_rfl) (by kernel_rfl) (by kernel_rfl) (fun _ _ _ h=>h) (Or.inl ⟨by rfl,?_⟩) hS ?_;rotate_left;focus (intro w2 hw2;obtain ⟨⟨x1,x2,z1,z2⟩,z3,hec⟩:=hw2;have g0:=hec 0 _ rfl;have g1:=hec 1 _ rfl;have g2:=hec 2 _ rfl;have g3:=hec 3 _ rfl;have g4:=hec 4 _ rfl;have g5:=hec 5 _ rfl;have g6:=hec 6 _ rfl;simp only [Nat.add_zero] at g0;clear hec;go_simp;first | done | with_reducible rfl);(try simp only [Act.put,pu1,pu2,pu3]))
     (refine wpAnyH_take (i:=1) (v:=?_) rfl (by kernel_rfl) (by kernel_rfl) (by kernel_rfl) (fun _ _ _ h=>h) (Or.inl ⟨by rfl,?_⟩) hS ?_;rotate_left;focus (intro w2 hw2;obtain ⟨⟨x1,x2,z1,z2⟩,z3,hec⟩:=hw2;have g0:=hec 0 _ rfl;have g1:=hec 1 _ rfl;have g2:=hec 2 _ rfl;have g3:=hec 3 _ rfl;have g4:=hec 4 _ rfl;have g5:=hec 5 _ rfl;have g6:=hec 6 _ rfl;simp only [Nat.add_zero] at g0;clear hec;go_simp;first | done | with_reducible rfl);(try simp only [Act.put,pu1,pu2,pu3]))
     (refine wpAnyH_take (i:=2) (v:=?_) rfl (by kernel_rfl) (by kernel_rfl) (by kernel_rfl) (fun _ _ _ h=>h) (Or.inl ⟨by rfl,?_⟩) hS ?_;rotate_left;focus (intro w2 hw2;obtain ⟨⟨x1,x2,z1,z2⟩,z3,hec⟩:=hw2;have g0:=hec 0 _ rfl;have g1:=hec 1 _ rfl;have g2:=hec 2 _ rfl;have g3:=hec 3 _ rfl;have g4:=hec 4 _ rfl;have g5:=hec 5 _ rfl;have g6:=hec 6 _ rfl;simp only [Nat.add_zero] at g0;clear hec;go_simp;first | done | with_reducible rfl);(try simp only [Act.put,pu1,pu2,pu3]))
     (refine wpAnyH_take (i:=3) (v:=?_) rfl (by kernel_rfl) (by kernel_rfl) (by kernel_rfl) (fun _ _ _ h=>h) (Or.inl ⟨by rfl,?_⟩) hS ?_;rotate_left;focus (intro w2 hw2;obtain ⟨⟨x1,x2,z1,z2⟩,z3,hec⟩:=hw2;have g0:=hec 0 _ rfl;have g1:=hec 1 _ rfl;have g2:=hec 2 _ rfl;have g3:=hec 3 _ rfl;have g4:=hec 4 _ rfl;have g5:=hec 5 _ rfl;have g6:=hec 6 _ rfl;simp only [Nat.add_zero] at g0;clear hec;go_simp;first | done | with_reducible rfl);(try simp only [Act.put,pu1,pu2,pu3]))
     (refine wpAnyH_take (i:=4) (v:=?_) rfl (by kernel_rfl) (by kernel_rfl) (by kernel_rfl) (fun _ _ _ h=>h) (Or.inl ⟨by rfl,?_⟩) hS ?_;rotate_left;focus (intro w2 hw2;obtain ⟨⟨x1,x2,z1,z2⟩,z3,hec⟩:=hw2;have g0:=hec 0 _ rfl;have g1:=hec 1 _ rfl;have g2:=hec 2 _ rfl;have g3:=hec 3 _ rfl;have g4:=hec 4 _ rfl;have g5:=hec 5 _ rfl;have g6:=hec 6 _ rfl;simp only [Nat.add_zero] at g0;clear hec;go_simp;first | done | with_reducible rfl);(try simp only [Act.put,pu1,pu2,pu3]))
     (refine wpAnyH_take (i:=5) (v:=?_) rfl (by kernel_rfl) (by kernel_rfl) (by kernel_rfl) (fun _ _ _ h=>h) (Or.inl ⟨by rfl,?_⟩) hS ?_;rotate_left;focus (intro w2 hw2;obtain ⟨⟨x1,x2,z1,z2⟩,z3,hec⟩:=hw2;have g0:=hec 0 _ rfl;have g1:=hec 1 _ rfl;have g2:=hec 2 _ rfl;have g3:=hec 3 _ rfl;have g4:=hec 4 _ rfl;have g5:=hec 5 _ rfl;have g6:=hec 6 _ rfl;simp only [Nat.add_zero] at g0;clear hec;go_simp;first | done | with_reducible rfl);(try simp only [Act.put,pu1,pu2,pu3]))
     (refine wpAnyH_take (i:=6) (v:=?_) rfl (by kernel_rfl) (by kernel_rfl) (by kernel_rfl) (fun _ _ _ h=>h) (Or.inl ⟨by rfl,?_⟩) hS ?_;rotate_left;focus (intro w2 hw2;obtain ⟨⟨x1,x2,z1,z2⟩,z3,hec⟩:=hw2;have g0:=hec 0 _ rfl;have g1:=hec 1 _ rfl;have g2:=hec 2 _ rfl;have g3:=hec 3 _ rfl;have g4:=hec 4 _ rfl;have g5:=hec 5 _ rfl;have g6:=hec 6 _ rfl;simp only [Nat.add_zero] at g0;clear hec;go_simp;first | done | with_reducible rfl);(try simp only [Act.put,pu1,pu2,pu3]))
     refine rd_ [7] ?_
     refine ah1 rfl fun K hK=>?_
     go_simp
     have hS5:=SW.ext ((Below.refl _ _).alloc lr_ (.cells (rvC z).toArray 79)) hS
     refine hK.out _ _ hS5 (fun hS=>?_)
     clear hK K
     (try simp only [Act.put,pu1,pu2,pu3])
     have h5:Below wr.heap.size wr (wr.drew.alloc (.cells (rvC z).toArray 79)):=by exact bel_
     refine rd_ [8] ?_
     refine ah1 rfl fun K hK=>?_
     have hmle:mR≤60:=by have h:=own_len HI.out.r (fun _=>rfl) (by omega);have h2:=List.length_filter_le (fun z:Rv=>!(z.r.src == src)) (XR.take k);rw [List.length_take] at h2;omega
     refine step_app (by rfl) (.tmp 31) (.tmp 37) 28 (by rfl) (base:=wv.heap.size) (B:=_) (e:=79) (i:=iR) (size:=7) (bytes:=72) Tryz.underlying28 hiR hz0R hz1R hz2R rfl (by decide) (v:=.slice AR mR cR) (n:=mR) (m:=1) (A:=some ⟨wr.heap.size,0,none⟩) (c:=1) (xs:=((XR.take k).filter (fun z=>!(z.r.src == src))).flatMap rvC) (news:=rvC z) (by rfl) (by rfl) (own_ex HI.out.r h5) (Rd.new wr.drew (rvC z).toArray 79 7 1 _ rfl rfl) (by intro u hu;simp at hu;rcases hu with rfl | rfl | rfl | rfl | rfl | rfl | rfl <;> rfl) (by unfold maxLen;omega) (by omega) (by simp;omega) ?_
     intro v6 w6 hown6 hgrow6
     obtain ⟨A6,c6,rfl,hcc6⟩:=own_slice hown6
     have h5o:=own_ex HI.out.r h5
     refine hK.out _ _ (SW.grownR hgrow6 hS5 (own_ne h5o (HX.out.ext h5) (by decide)) (own_ne h5o (HOB.out.ext h5) (by decide)) (fun e=>by have:=own_le h5o e.symm;omega)) (fun hS=>?_)
     clear hK K
     (try simp only [Act.put,pu1,pu2,pu3])
     (refine wpAnyH_take (i:=9) (v:=?_) rfl (by kernel_rfl) (by kernel_rfl) (by kernel_rfl) (fun _ _ _ h=>h) (Or.inl ⟨by rfl,?_⟩) hS ?_;rotate_left;focus (intro w2 hw2;obtain ⟨⟨x1,x2,z1,z2⟩,z3,hec⟩:=hw2;have g0:=hec 0 _ rfl;have g1:=hec 1 _ rfl;have g2:=hec 2 _ rfl;have g3:=hec 3 _ rfl;have g4:=hec 4 _ rfl;have g5:=hec 5 _ rfl;have g6:=hec 6 _ rfl;simp only [Nat.add_zero] at g0;clear hec;go_simp;first | done | with_reducible rfl);(try simp only [Act.put,pu1,pu2,pu3]))
     have bO6:=(HOB.out.ext h5).kept hgrow6 (own_ne h5o (HOB.out.ext h5) (by decide))
     have kO6:=bO6.cell
     have zO6:=bO6.lt
     have fO6:=bO6.frozen
     have HT6:=hd_ (HI.out.appR hqq hwv h5 hown6 hgrow6 (.slice A6 (mR+1) c6))
     clear hown6 hgrow6 hS hS5 h5o bO6 kX zX kO zO
     refine wpAnyH_done (by kernel_rfl) ?_ _
     simp only [sinkQ]
     go_simp
     go_wp2
     go_roundw
     case rel =>
      refine ⟨k+1,by omega,by go_num,A6,mR+1,c6,?_⟩
      rw [HN.out,List.flatMap_append,List.flatMap_cons,List.flatMap_nil,List.append_nil]
      exact HT6.out
     case measure=>exact ms_
  ·obtain rfl:yrn=k:=by omega
   have hfl:XR.take yrn=XR:=List.take_of_length_le (by rw [HLR.out];exact lr_)
   have hI2:WoI w wv wr (w1.heap.size+1) #[.slice yp ypn ypc,.slice AR mR cR,.slice none 0 0,.slice none 0 0] (mR,.slice AR mR cR,(XR.filter (fun z=>!(z.r.src == src))).flatMap rvC) (0,.slice none 0 0,[]) (0,.slice none 0 0,[]):=by have h:=HI.out;rw [hfl] at h;exact h
   have HI2:=hd_ hI2
   clear hI2 hfl HI
   go_wp2_with fail
   clear kX zX kO zO
   go_loopw [8] (fun i wr=>∃ k:Nat,k≤ytn∧i=.int .i64 k∧∃ AT mT cT,WoI w wv wr (w1.heap.size+1) #[.slice yp ypn ypc,.slice AR mR cR,.slice AT mT cT,.slice none 0 0] (mR,.slice AR mR cR,(XR.filter (fun z=>!(z.r.src == src))).flatMap rvC) (mT,.slice AT mT cT,((XT.take k).filter (fun z=>!(z.r.src == src))).flatMap tvC) (0,.slice none 0 0,[])) (fun i _=>ytn - (intOf i).toNat)
   case atStart=>exact ⟨0,by omega,rfl,none,0,0,HI2.out⟩
   case round =>
    obtain ⟨k,hk,rfl,AT,mT,cT,hI⟩:=hrel
    have HI:=hd_ hI
    have hsz:=hI.sz
    have bX:BoxA wr w1.heap.size 32 #[.slice yp ypn ypc,.slice yr yrn yrc,.slice yt ytn ytc,.slice ys ysn ysc]:=(hI.keep _ (by omega) (by omega)).trans HBX.out
    have bO:=hI.bO
    have kX:=bX.cell
    have zX:=bX.lt
    have kO:=bO.cell
    have zO:=bO.lt
    have HX:=hd_ bX
    have HOB:=hd_ bO
    clear hI bX bO
    by_cases hlt:k<ytn
    ·obtain ⟨z,hz⟩:∃ z,XT[k]?=some z:=⟨_,List.getElem?_eq_getElem (by rw [HLT.out];exact hlt)⟩
     obtain ⟨b,o,hA,hb,hec⟩:=elemAt HRT.out (flat_get tvC 8 (fun _=>rfl)) (fun _=>rfl) hz hlt
     have hbq:b≠w1.heap.size+1:=by omega
     have hb1:b<wv.heap.size:=by omega
     have hbr:b<wr.heap.size:=by omega
     have hec2:∀ m u,(tvC z)[m]?=some u→wr.cell? ⟨b,o+k*8+m,none⟩=some u:=fun m u hu=>by
      have h1:=hec m u hu
      rw [← h1]
      simp only [World.cell?,HI.out.keep b hb1 hbq,HWV.out.block b hb]
     subst hA
     have g0:=hec2 0 _ rfl
     simp only [Nat.add_zero] at g0
     have HEC:=hd_ hec2
     cases hs:(z.r.src == src) with
     | true =>
       have HN:Hid ((XT.take (k+1)).filter (fun z=>!(z.r.src == src))=(XT.take k).filter (fun z=>!(z.r.src == src))):=by show _=_;rw [take_snoc_some hz,List.filter_append];simp [hs]
       have hs2:(z.r.src != src)=false:=by simpa using hs
       clear hs hec hec2 hz
       go_wp2_with fail
       go_roundw
       case rel=>exact ⟨k+1,by omega,by go_num,AT,mT,cT,by rw [HN.out];exact HI.out⟩
       case measure=>exact ms_
     | false =>
       have HN:Hid ((XT.take (k+1)).filter (fun z=>!(z.r.src == src))=(XT.take k).filter (fun z=>!(z.r.src == src)) ++ [z]):=by show _=_;rw [take_snoc_some hz,List.filter_append];simp [hs]
       have hs2:(z.r.src != src)=true:=by simpa using hs
       clear hs hec hec2 hz
       go_wp2_with fail
       clear g0
       (refine wp_region_sink_lit (S:=SW w1.heap.size (w1.heap.size+1) #[.slice yp ypn ypc,.slice yr yrn yrc,.slice (some ⟨b,o,none⟩) ytn ytc,.slice ys ysn ysc] #[.slice yp ypn ypc,.slice AR mR cR,.slice AT mT cT,.slice none 0 0] b (o+k*8) (tvC z)) 10 (by kernel_rfl) rfl rfl (by kernel_rfl) (by kernel_rfl) ⟨⟨HX.out.cell,HOB.out.cell,HX.out.lt,HOB.out.lt⟩,hbr,HEC.out⟩ (fun hS=>?_);simp only [List.take_succ_cons,List.take_zero,List.reduceReplicate,Array.replicate_succ,Array.replicate_zero])
       (refine wpAnyH_take (i:=0) (v:=?_) rfl (by kernel_rfl) (by kernel_rfl) (by kernel_rfl) (fun _ _ _ h=>h) (Or.inl ⟨by rfl,?_⟩) hS ?_;rotate_left;focus (intro w2 hw2;obtain ⟨⟨x1,x2,z1,z2⟩,z3,hec⟩:=hw2;have g0:=hec 0 _ rfl;have g1:=hec 1 _ rfl;have g2:=hec 2 _ rfl;have g3:=hec 3 _ rfl;have g4:=hec 4 _ rfl;have g5:=hec 5 _ rfl;have g6:=hec 6 _ rfl;have g7:=hec 7 _ rfl;simp only [Nat.add_zero] at g0;clear hec;go_simp;first | done | with_reducible rfl);(try simp only [Act.put,pu1,pu2,pu3]))
       (refine wpAnyH_take (i:=1) (v:=?_) rfl (by kernel_rfl) (by kernel_rfl) (by kernel_rfl) (fun _ _ _ h=>h) (Or.inl ⟨by rfl,?_⟩) hS ?_;rotate_left;focus (intro w2 hw2;obtain ⟨⟨x1,x2,z1,z2⟩,z3,hec⟩:=hw2;have g0:=hec 0 _ rfl;have g1:=hec 1 _ rfl;have g2:=hec 2 _ rfl;have g3:=hec 3 _ rfl;have g4:=hec 4 _ rfl;have g5:=hec 5 _ rfl;have g6:=hec 6 _ rfl;have g7:=hec 7 _ rfl;simp only [Nat.add_zero] at g0;clear hec;go_simp;first | done | with_reducible rfl);(try simp only [Act.put,pu1,pu2,pu3]))
       (refine wpAnyH_take (i:=2) (v:=?_) rfl (by kernel_rfl) (by kernel_rfl) (by kernel_rfl) (fun _ _ _ h=>h) (Or.inl ⟨by rfl,?_⟩) hS ?_;rotate_left;focus (intro w2 hw2;obtain ⟨⟨x1,x2,z1,z2⟩,z3,hec⟩:=hw2;have g0:=hec 0 _ rfl;have g1:=hec 1 _ rfl;have g2:=hec 2 _ rfl;have g3:=hec 3 _ rfl;have g4:=hec 4 _ rfl;have g5:=hec 5 _ rfl;have g6:=hec 6 _ rfl;have g7:=hec 7 _ rfl;simp only [Nat.add_zero] at g0;clear hec;go_simp;first | done | with_reducible rfl);(try simp only [Act.put,pu1,pu2,pu3]))
       (refine wpAnyH_take (i:=3) (v:=?_) rfl (by kernel_rfl) (by kernel_rfl) (by kernel_rfl) (fun _ _ _ h=>h) (Or.inl ⟨by rfl,?_⟩) hS ?_;rotate_left;focus (intro w2 hw2;obtain ⟨⟨x1,x2,z1,z2⟩,z3,hec⟩:=hw2;have g0:=hec 0 _ rfl;have g1:=hec 1 _ rfl;have g2:=hec 2 _ rfl;have g3:=hec 3 _ rfl;have g4:=hec 4 _ rfl;have g5:=hec 5 _ rfl;have g6:=hec 6 _ rfl;have g7:=hec 7 _ rfl;simp only [Nat.add_zero] at g0;clear hec;go_simp;first | done | with_reducible rfl);(try simp only [Act.put,pu1,pu2,pu3]))
       (refine wpAnyH_take (i:=4) (v:=?_) rfl (by kernel_rfl) (by kernel_rfl) (by kernel_rfl) (fun _ _ _ h=>h) (Or.inl ⟨by rfl,?_⟩) hS ?_;rotate_left;focus (intro w2 hw2;obtain ⟨⟨x1,x2,z1,z2⟩,z3,hec⟩:=hw2;have g0:=hec 0 _ rfl;have g1:=hec 1 _ rfl;have g2:=hec 2 _ rfl;have g3:=hec 3 _ rfl;have g4:=hec 4 _ rfl;have g5:=hec 5 _ rfl;have g6:=hec 6 _ rfl;have g7:=hec 7 _ rfl;simp only [Nat.add_zero] at g0;clear hec;go_simp;first | done | with_reducible rfl);(try simp only [Act.put,pu1,pu2,pu3]))
       (refine wpAnyH_take (i:=5) (v:=?_) rfl (by kernel_rfl) (by kernel_rfl) (by kernel_rfl) (fun _ _ _ h=>h) (Or.inl ⟨by rfl,?_⟩) hS ?_;rotate_left;focus (intro w2 hw2;obtain ⟨⟨x1,x2,z1,z2⟩,z3,hec⟩:=hw2;have g0:=hec 0 _ rfl;have g1:=hec 1 _ rfl;have g2:=hec 2 _ rfl;have g3:=hec 3 _ rfl;have g4:=hec 4 _ rfl;have g5:=hec 5 _ rfl;have g6:=hec 6 _ rfl;have g7:=hec 7 _ rfl;simp only [Nat.add_zero] at g0;clear hec;go_simp;first | done | with_reducible rfl);(try simp only [Act.put,pu1,pu2,pu3]))
       (refine wpAnyH_take (i:=6) (v:=?_) rfl (by kernel_rfl) (by kernel_rfl) (by kernel_rfl) (fun _ _ _ h=>h) (Or.inl ⟨by rfl,?_⟩) hS ?_;rotate_left;focus (intro w2 hw2;obtain ⟨⟨x1,x2,z1,z2⟩,z3,hec⟩:=hw2;have g0:=hec 0 _ rfl;have g1:=hec 1 _ rfl;have g2:=hec 2 _ rfl;have g3:=hec 3 _ rfl;have g4:=hec 4 _ rfl;have g5:=hec 5 _ rfl;have g6:=hec 6 _ rfl;have g7:=hec 7 _ rfl;simp only [Nat.add_zero] at g0;clear hec;go_simp;first | done | with_reducible rfl);(try simp only [Act.put,pu1,pu2,pu3]))
       refine rd_ [7] ?_
       refine ah1 rfl fun K hK=>?_
       go_simp
       have hS5:=SW.ext ((Below.refl _ _).alloc lr_ (.cells (tvC z).toArray 75)) hS
       refine hK.out _ _ hS5 (fun hS=>?_)
       clear hK K
       (try simp only [Act.put,pu1,pu2,pu3])
       have h5:Below wr.heap.size wr (wr.drew.alloc (.cells (tvC z).toArray 75)):=by exact bel_
       refine rd_ [8] ?_
       refine ah1 rfl fun K hK=>?_
       have hmle:mT≤60:=by have h:=own_len HI.out.t (fun _=>rfl) (by omega);have h2:=List.length_filter_le (fun z:Tv=>!(z.r.src == src)) (XT.take k);rw [List.length_take] at h2;omega
       refine step_app (by rfl) (.tmp 56) (.tmp 62) 29 (by rfl) (base:=wv.heap.size) (B:=_) (e:=75) (i:=iT) (size:=8) (bytes:=80) Tryz.underlying29 hiT hz0T hz1T hz2T rfl (by decide) (v:=.slice AT mT cT) (n:=mT) (m:=1) (A:=some ⟨wr.heap.size,0,none⟩) (c:=1) (xs:=((XT.take k).filter (fun z=>!(z.r.src == src))).flatMap tvC) (news:=tvC z) (by rfl) (by rfl) (own_ex HI.out.t h5) (Rd.new wr.drew (tvC z).toArray 75 8 1 _ rfl rfl) (by intro u hu;simp at hu;rcases hu with rfl | rfl | rfl | rfl | rfl | rfl | rfl | rfl <;> rfl) (by unfold maxLen;omega) (by omega) (by simp;omega) ?_
       intro v6 w6 hown6 hgrow6
       obtain ⟨A6,c6,rfl,hcc6⟩:=own_slice hown6
       have h5o:=own_ex HI.out.t h5
       refine hK.out _ _ (SW.grownR hgrow6 hS5 (own_ne h5o (HX.out.ext h5) (by decide)) (own_ne h5o (HOB.out.ext h5) (by decide)) (fun e=>by have:=own_le h5o e.symm;omega)) (fun hS=>?_)
       clear hK K
       (try simp only [Act.put,pu1,pu2,pu3])
       (refine wpAnyH_take (i:=9) (v:=?_) rfl (by kernel_rfl) (by kernel_rfl) (by kernel_rfl) (fun _ _ _ h=>h) (Or.inl ⟨by rfl,?_⟩) hS ?_;rotate_left;focus (intro w2 hw2;obtain ⟨⟨x1,x2,z1,z2⟩,z3,hec⟩:=hw2;have g0:=hec 0 _ rfl;have g1:=hec 1 _ rfl;have g2:=hec 2 _ rfl;have g3:=hec 3 _ rfl;have g4:=hec 4 _ rfl;have g5:=hec 5 _ rfl;have g6:=hec 6 _ rfl;have g7:=hec 7 _ rfl;simp only [Nat.add_zero] at g0;clear hec;go_simp;first | done | with_reducible rfl);(try simp only [Act.put,pu1,pu2,pu3]))
       have bO6:=(HOB.out.ext h5).kept hgrow6 (own_ne h5o (HOB.out.ext h5) (by decide))
       have kO6:=bO6.cell
       have zO6:=bO6.lt
       have fO6:=bO6.frozen
       have HT6:=hd_ (HI.out.appT hqq hwv h5 hown6 hgrow6 (.slice A6 (mT+1) c6))
       clear hown6 hgrow6 hS hS5 h5o bO6 kX zX kO zO
       refine wpAnyH_done (by kernel_rfl) ?_ _
       simp only [sinkQ]
       go_simp
       go_wp2
       go_roundw
       case rel =>
        refine ⟨k+1,by omega,by go_num,A6,mT+1,c6,?_⟩
        rw [HN.out,List.flatMap_append,List.flatMap_cons,List.flatMap_nil,List.append_nil]
        exact HT6.out
       case measure=>exact ms_
    ·obtain rfl:ytn=k:=by omega
     have hfl:XT.take ytn=XT:=List.take_of_length_le (by rw [HLT.out];exact lr_)
     have hI2:WoI w wv wr (w1.heap.size+1) #[.slice yp ypn ypc,.slice AR mR cR,.slice AT mT cT,.slice none 0 0] (mR,.slice AR mR cR,(XR.filter (fun z=>!(z.r.src == src))).flatMap rvC) (mT,.slice AT mT cT,(XT.filter (fun z=>!(z.r.src == src))).flatMap tvC) (0,.slice none 0 0,[]):=by have h:=HI.out;rw [hfl] at h;exact h
     have HI2:=hd_ hI2
     clear hI2 hfl HI
     go_wp2_with fail
     clear kX zX kO zO
     go_loopw [9] (fun i wr=>∃ k:Nat,k≤ysn∧i=.int .i64 k∧∃ AS mS cS,WoI w wv wr (w1.heap.size+1) #[.slice yp ypn ypc,.slice AR mR cR,.slice AT mT cT,.slice AS mS cS] (mR,.slice AR mR cR,(XR.filter (fun z=>!(z.r.src == src))).flatMap rvC) (mT,.slice AT mT cT,(XT.filter (fun z=>!(z.r.src == src))).flatMap tvC) (mS,.slice AS mS cS,((XS.take k).filter (fun z=>!(z.src == src))).flatMap sgC)) (fun i _=>ysn - (intOf i).toNat)
     case atStart=>exact ⟨0,by omega,rfl,none,0,0,HI2.out⟩
     case round =>
      obtain ⟨k,hk,rfl,AS,mS,cS,hI⟩:=hrel
      have HI:=hd_ hI
      have hsz:=hI.sz
      have bX:BoxA wr w1.heap.size 32 #[.slice yp ypn ypc,.slice yr yrn yrc,.slice yt ytn ytc,.slice ys ysn ysc]:=(hI.keep _ (by omega) (by omega)).trans HBX.out
      have bO:=hI.bO
      have kX:=bX.cell
      have zX:=bX.lt
      have kO:=bO.cell
      have zO:=bO.lt
      have HX:=hd_ bX
      have HOB:=hd_ bO
      clear hI bX bO
      by_cases hlt:k<ysn
      ·obtain ⟨z,hz⟩:∃ z,XS[k]?=some z:=⟨_,List.getElem?_eq_getElem (by rw [HLS.out];exact hlt)⟩
       obtain ⟨b,o,hA,hb,hec⟩:=elemAt HRS.out (flat_get sgC 7 (fun _=>rfl)) (fun _=>rfl) hz hlt
       have hbq:b≠w1.heap.size+1:=by omega
       have hb1:b<wv.heap.size:=by omega
       have hbr:b<wr.heap.size:=by omega
       have hec2:∀ m u,(sgC z)[m]?=some u→wr.cell? ⟨b,o+k*7+m,none⟩=some u:=fun m u hu=>by
        have h1:=hec m u hu
        rw [← h1]
        simp only [World.cell?,HI.out.keep b hb1 hbq,HWV.out.block b hb]
       subst hA
       have g0:=hec2 0 _ rfl
       simp only [Nat.add_zero] at g0
       have HEC:=hd_ hec2
       cases hs:(z.src == src) with
       | true =>
         have HN:Hid ((XS.take (k+1)).filter (fun z=>!(z.src == src))=(XS.take k).filter (fun z=>!(z.src == src))):=by show _=_;rw [take_snoc_some hz,List.filter_append];simp [hs]
         have hs2:(z.src != src)=false:=by simpa using hs
         clear hs hec hec2 hz
         go_wp2_with fail
         go_roundw
         case rel=>exact ⟨k+1,by omega,by go_num,AS,mS,cS,by rw [HN.out];exact HI.out⟩
         case measure=>exact ms_
       | false =>
         have HN:Hid ((XS.take (k+1)).filter (fun z=>!(z.src == src))=(XS.take k).filter (fun z=>!(z.src == src)) ++ [z]):=by show _=_;rw [take_snoc_some hz,List.filter_append];simp [hs]
         have hs2:(z.src != src)=true:=by simpa using hs
         clear hs hec hec2 hz
         go_wp2_with fail
         clear g0
         (refine wp_region_sink_lit (S:=SW w1.heap.size (w1.heap.size+1) #[.slice yp ypn ypc,.slice yr yrn yrc,.slice yt ytn ytc,.slice (some ⟨b,o,none⟩) ysn ysc] #[.slice yp ypn ypc,.slice AR mR cR,.slice AT mT cT,.slice AS mS cS] b (o+k*7) (sgC z)) 10 (by kernel_rfl) rfl rfl (by kernel_rfl) (by kernel_rfl) ⟨⟨HX.out.cell,HOB.out.cell,HX.out.lt,HOB.out.lt⟩,hbr,HEC.out⟩ (fun hS=>?_);simp only [List.take_succ_cons,List.take_zero,List.reduceReplicate,Array.replicate_succ,Array.replicate_zero])
         (refine wpAnyH_take (i:=0) (v:=?_) rfl (by kernel_rfl) (by kernel_rfl) (by kernel_rfl) (fun _ _ _ h=>h) (Or.inl ⟨by rfl,?_⟩) hS ?_;rotate_left;focus (intro w2 hw2;obtain ⟨⟨x1,x2,z1,z2⟩,z3,hec⟩:=hw2;have g0:=hec 0 _ rfl;have g1:=hec 1 _ rfl;have g2:=hec 2 _ rfl;have g3:=hec 3 _ rfl;have g4:=hec 4 _ rfl;have g5:=hec 5 _ rfl;have g6:=hec 6 _ rfl;simp only [Nat.add_zero] at g0;clear hec;go_simp;first | done | with_reducible rfl);(try simp only [Act.put,pu1,pu2,pu3]))
         (refine wpAnyH_take (i:=1) (v:=?_) rfl (by kernel_rfl) (by kernel_rfl) (by kernel_rfl) (fun _ _ _ h=>h) (Or.inl ⟨by rfl,?_⟩) hS ?_;rotate_left;focus (intro w2 hw2;obtain ⟨⟨x1,x2,z1,z2⟩,z3,hec⟩:=hw2;have g0:=hec 0 _ rfl;have g1:=hec 1 _ rfl;have g2:=hec 2 _ rfl;have g3:=hec 3 _ rfl;have g4:=hec 4 _ rfl;have g5:=hec 5 _ rfl;have g6:=hec 6 _ rfl;simp only [Nat.add_zero] at g0;clear hec;go_simp;first | done | with_reducible rfl);(try simp only [Act.put,pu1,pu2,pu3]))
         (refine wpAnyH_take (i:=2) (v:=?_) rfl (by kernel_rfl) (by kernel_rfl) (by kernel_rfl) (fun _ _ _ h=>h) (Or.inl ⟨by rfl,?_⟩) hS ?_;rotate_left;focus (intro w2 hw2;obtain ⟨⟨x1,x2,z1,z2⟩,z3,hec⟩:=hw2;have g0:=hec 0 _ rfl;have g1:=hec 1 _ rfl;have g2:=hec 2 _ rfl;have g3:=hec 3 _ rfl;have g4:=hec 4 _ rfl;have g5:=hec 5 _ rfl;have g6:=hec 6 _ rfl;simp only [Nat.add_zero] at g0;clear hec;go_simp;first | done | with_reducible rfl);(try simp only [Act.put,pu1,pu2,pu3]))
         (refine wpAnyH_take (i:=3) (v:=?_) rfl (by kernel_rfl) (by kernel_rfl) (by kernel_rfl) (fun _ _ _ h=>h) (Or.inl ⟨by rfl,?_⟩) hS ?_;rotate_left;focus (intro w2 hw2;obtain ⟨⟨x1,x2,z1,z2⟩,z3,hec⟩:=hw2;have g0:=hec 0 _ rfl;have g1:=hec 1 _ rfl;have g2:=hec 2 _ rfl;have g3:=hec 3 _ rfl;have g4:=hec 4 _ rfl;have g5:=hec 5 _ rfl;have g6:=hec 6 _ rfl;simp only [Nat.add_zero] at g0;clear hec;go_simp;first | done | with_reducible rfl);(try simp only [Act.put,pu1,pu2,pu3]))
         (refine wpAnyH_take (i:=4) (v:=?_) rfl (by kernel_rfl) (by kernel_rfl) (by kernel_rfl) (fun _ _ _ h=>h) (Or.inl ⟨by rfl,?_⟩) hS ?_;rotate_left;focus (intro w2 hw2;obtain ⟨⟨x1,x2,z1,z2⟩,z3,hec⟩:=hw2;have g0:=hec 0 _ rfl;have g1:=hec 1 _ rfl;have g2:=hec 2 _ rfl;have g3:=hec 3 _ rfl;have g4:=hec 4 _ rfl;have g5:=hec 5 _ rfl;have g6:=hec 6 _ rfl;simp only [Nat.add_zero] at g0;clear hec;go_simp;first | done | with_reducible rfl);(try simp only [Act.put,pu1,pu2,pu3]))
         (refine wpAnyH_take (i:=5) (v:=?_) rfl (by kernel_rfl) (by kernel_rfl) (by kernel_rfl) (fun _ _ _ h=>h) (Or.inl ⟨by rfl,?_⟩) hS ?_;rotate_left;focus (intro w2 hw2;obtain ⟨⟨x1,x2,z1,z2⟩,z3,hec⟩:=hw2;have g0:=hec 0 _ rfl;have g1:=hec 1 _ rfl;have g2:=hec 2 _ rfl;have g3:=hec 3 _ rfl;have g4:=hec 4 _ rfl;have g5:=hec 5 _ rfl;have g6:=hec 6 _ rfl;simp only [Nat.add_zero] at g0;clear hec;go_simp;first | done | with_reducible rfl);(try simp only [Act.put,pu1,pu2,pu3]))
         (refine wpAnyH_take (i:=6) (v:=?_) rfl (by kernel_rfl) (by kernel_rfl) (by kernel_rfl) (fun _ _ _ h=>h) (Or.inl ⟨by rfl,?_⟩) hS ?_;rotate_left;focus (intro w2 hw2;obtain ⟨⟨x1,x2,z1,z2⟩,z3,hec⟩:=hw2;have g0:=hec 0 _ rfl;have g1:=hec 1 _ rfl;have g2:=hec 2 _ rfl;have g3:=hec 3 _ rfl;have g4:=hec 4 _ rfl;have g5:=hec 5 _ rfl;have g6:=hec 6 _ rfl;simp only [Nat.add_zero] at g0;clear hec;go_simp;first | done | with_reducible rfl);(try simp only [Act.put,pu1,pu2,pu3]))
         refine rd_ [7] ?_
         refine ah1 rfl fun K hK=>?_
         go_simp
         have hS5:=SW.ext ((Below.refl _ _).alloc lr_ (.cells (sgC z).toArray 70)) hS
         refine hK.out _ _ hS5 (fun hS=>?_)
         clear hK K
         (try simp only [Act.put,pu1,pu2,pu3])
         have h5:Below wr.heap.size wr (wr.drew.alloc (.cells (sgC z).toArray 70)):=by exact bel_
         refine rd_ [8] ?_
         refine ah1 rfl fun K hK=>?_
         have hmle:mS≤60:=by have h:=own_len HI.out.s (fun _=>rfl) (by omega);have h2:=List.length_filter_le (fun z:Sgt=>!(z.src == src)) (XS.take k);rw [List.length_take] at h2;omega
         refine step_app (by rfl) (.tmp 81) (.tmp 87) 30 (by rfl) (base:=wv.heap.size) (B:=_) (e:=70) (i:=iS) (size:=7) (bytes:=56) Tryz.underlying30 hiS hz0S hz1S hz2S rfl (by decide) (v:=.slice AS mS cS) (n:=mS) (m:=1) (A:=some ⟨wr.heap.size,0,none⟩) (c:=1) (xs:=((XS.take k).filter (fun z=>!(z.src == src))).flatMap sgC) (news:=sgC z) (by rfl) (by rfl) (own_ex HI.out.s h5) (Rd.new wr.drew (sgC z).toArray 70 7 1 _ rfl rfl) (by intro u hu;simp at hu;rcases hu with rfl | rfl | rfl | rfl | rfl | rfl | rfl <;> rfl) (by unfold maxLen;omega) (by omega) (by simp;omega) ?_
         intro v6 w6 hown6 hgrow6
         obtain ⟨A6,c6,rfl,hcc6⟩:=own_slice hown6
         have h5o:=own_ex HI.out.s h5
         refine hK.out _ _ (SW.grownR hgrow6 hS5 (own_ne h5o (HX.out.ext h5) (by decide)) (own_ne h5o (HOB.out.ext h5) (by decide)) (fun e=>by have:=own_le h5o e.symm;omega)) (fun hS=>?_)
         clear hK K
         (try simp only [Act.put,pu1,pu2,pu3])
         (refine wpAnyH_take (i:=9) (v:=?_) rfl (by kernel_rfl) (by kernel_rfl) (by kernel_rfl) (fun _ _ _ h=>h) (Or.inl ⟨by rfl,?_⟩) hS ?_;rotate_left;focus (intro w2 hw2;obtain ⟨⟨x1,x2,z1,z2⟩,z3,hec⟩:=hw2;have g0:=hec 0 _ rfl;have g1:=hec 1 _ rfl;have g2:=hec 2 _ rfl;have g3:=hec 3 _ rfl;have g4:=hec 4 _ rfl;have g5:=hec 5 _ rfl;have g6:=hec 6 _ rfl;simp only [Nat.add_zero] at g0;clear hec;go_simp;first | done | with_reducible rfl);(try simp only [Act.put,pu1,pu2,pu3]))
         have bO6:=(HOB.out.ext h5).kept hgrow6 (own_ne h5o (HOB.out.ext h5) (by decide))
         have kO6:=bO6.cell
         have zO6:=bO6.lt
         have fO6:=bO6.frozen
         have HT6:=hd_ (HI.out.appS hqq hwv h5 hown6 hgrow6 (.slice A6 (mS+1) c6))
         clear hown6 hgrow6 hS hS5 h5o bO6 kX zX kO zO
         refine wpAnyH_done (by kernel_rfl) ?_ _
         simp only [sinkQ]
         go_simp
         go_wp2
         go_roundw
         case rel =>
          refine ⟨k+1,by omega,by go_num,A6,mS+1,c6,?_⟩
          rw [HN.out,List.flatMap_append,List.flatMap_cons,List.flatMap_nil,List.append_nil]
          exact HT6.out
         case measure=>exact ms_
      ·obtain rfl:ysn=k:=by omega
       have hfl:XS.take ysn=XS:=List.take_of_length_le (by rw [HLS.out];exact lr_)
       have hI2:WoI w wv wr (w1.heap.size+1) #[.slice yp ypn ypc,.slice AR mR cR,.slice AT mT cT,.slice AS mS cS] (mR,.slice AR mR cR,(XR.filter (fun z=>!(z.r.src == src))).flatMap rvC) (mT,.slice AT mT cT,(XT.filter (fun z=>!(z.r.src == src))).flatMap tvC) (mS,.slice AS mS cS,(XS.filter (fun z=>!(z.src == src))).flatMap sgC):=by have h:=HI.out;rw [hfl] at h;exact h
       have HI2:=hd_ hI2
       clear hI2 hfl HI
       have hI:=HI2.out
       have bZ:BoxA wr (w.heap.size+1) 32 #[.slice none 0 0,.slice none 0 0,.slice none 0 0,.slice none 0 0]:=(hI.keep _ (by have:=HZV.out.lt;omega) (by have:=HZ1.out.lt;omega)).trans HZV.out
       have bO:=hI.bO
       have kO:=bO.cell
       have zO:=bO.lt
       have kZ:=bZ.cell
       have zZ:=bZ.lt
       have fZ:=bZ.frozen
       have HBZ:=hd_ bZ
       clear bO bZ hI
       go_wp2_with fail
       refine bodyPost_w (W2:=wr.setCells (w.heap.size+1) 0 (#[.slice yp ypn ypc,.slice AR mR cR,.slice AT mT cT,.slice AS mS cS]:Array Value).toList) rfl ?_
       refine bodyPost_ret (v:=.agg #[.slice yp ypn ypc,.slice AR mR cR,.slice AT mT cT,.slice AS mS cS]) ?_ rfl ?_
       ·have hbz:BoxA (wr.setCells (w.heap.size+1) 0 (#[.slice yp ypn ypc,.slice AR mR cR,.slice AT mT cT,.slice AS mS cS]:Array Value).toList) (w.heap.size+1) 32 #[.slice yp ypn ypc,.slice AR mR cR,.slice AT mT cT,.slice AS mS cS]:=HBZ.out.setAll _ rfl
        obtain ⟨W2,hW2⟩:∃ W2,W2=wr.setCells (w.heap.size+1) 0 (#[.slice yp ypn ypc,.slice AR mR cR,.slice AT mT cT,.slice AS mS cS]:Array Value).toList:=⟨_,rfl⟩
        rw [← hW2] at hbz ⊢
        clear hW2
        have hce:=hbz.cell
        (simp [results,Tryz.f37,go_sem];try go_simp)
       ·have hgr:=grown_setCells (w.heap.size+1) (#[.slice yp ypn ypc,.slice AR mR cR,.slice AT mT cT,.slice AS mS cS]:Array Value).toList 0 wr
        have hI:=HI2.out
        have hkeep:∀ {t:TypeId} {s n:Nat} {v:Value} {xs:List Value},w1.ownsRow w.heap.size t s v n xs→wr.ownsRow w.heap.size t s v n xs:=fun h=>own_keep h fun b hb=>by
         obtain ⟨cur,hh⟩:=own_block h hb
         have hlt:=block_lt hh
         exact (hI.keep b (by omega) (by omega)).trans (HWV.out.block b hlt)
        have hcop:Cop wr w.heap.size ⟨yp,ypn,ypc,AR,mR,cR,AT,mT,cT,AS,mS,cS⟩ l.pp (XR.filter fun z=>!(z.r.src == src)) (XT.filter fun z=>!(z.r.src == src)) (XS.filter fun z=>!(z.src == src)) :=
         ⟨hkeep HC1.out.p,own_dn hI.r hwv,own_dn hI.t hwv,own_dn hI.s hwv,fun v hv=>hkeep (HC1.out.rl v (List.mem_filter.1 hv).1),fun v hv=>hkeep (HC1.out.tl v (List.mem_filter.1 hv).1)⟩
        have hcop2:=hcop.kept HBZ.out hgr
        have hled:=hcop2.led
        rw [exc_rv,exc_tv,HXR.out,HXT.out,← HXS.out] at hled
        exact ⟨_,rfl,hI.bel.grown hgr hI.bel.size (fun b e=>by cases e;omega),hcop2.fit,hled⟩
end Go.Proofs.YtmcmbicapdcfmaaGreat
