/- Layer 2 of the texts that LoanDoubles takes: Vbpq. -/
import Derived.Test.YtoiompoapikkbaaGreatVboq
set_option linter.unusedVariables false
set_option linter.unusedSimpArgs false
/- Layer 2, the reference: narrowed. -/
namespace Go.Proofs.YtoiompoapikkbaaGreat
open Go.RowKit Go.Maps
theorem infoRg:(Tryz.prog.info? 34).map (fun i=>(i.zero,i.size,i.bytes))=some (some (.agg #[.int .i64 0,.int .i64 0]),2,16):=by kernel_rfl
theorem r_last_v (l:Led) (v:Vw) (pap leaf day k:Int) (w:World) (hn:v.x.rn≤1000000) (hd:LedIn w w.heap.size v.x l) (h:lastI (lastK v.kn pap leaf day l.rc l.rc.length)=k) :
 Calls Tryz.prog 173 #[vwV v,.agg #[.int .i64 pap,.int .i64 leaf],.int .i64 day] w fun e w'=>e=.returned (.int .i64 k)∧Below w.heap.size w w':=h ▸ r_last l v pap leaf day w hn hd
def refNQ (D:List (Int × Int)) (s:Sgt) (x:Rcp):Option Nat→List (Int × Int) × Bool
 | none=>(D,decide (s.per=x.bor))
 | some k=>if s.per=x.bor then (D.set k (max (D.getD k (0,0)).1 (s.day+1),(D.getD k (0,0)).2),decide (max (D.getD k (0,0)).1 (s.day+1)≤(D.getD k (0,0)).2))
   else if s.per=0 then (D.set k ((D.getD k (0,0)).1,min (D.getD k (0,0)).2 s.day),decide ((D.getD k (0,0)).1≤min (D.getD k (0,0)).2 s.day))
   else (D,false)
theorem refN_eq {l:Led} {T:List Bool} {kn:Int} {D:List (Int × Int)} {s:Sgt} {p:Nat × Int} {x:Rcp} (hL:lastK kn s.pap s.leaf s.day l.rc l.rc.length=some p) (hx:l.rc[p.1]?=some x):refN l T kn D s=refNQ D s x (rtIx T l.rt x.src s.leaf):=by
 rw [refN,hL]
 dsimp only
 simp only [hx]
 cases rtIx T l.rt x.src s.leaf <;> rfl
def RetNr (r:List (Int × Int) × Bool) (n:Nat) (w:World) (e:Ending) (w':World):Prop:=∃ A c,e=.returned (.tuple #[.slice A n c,.bool r.2])∧Below w.heap.size w w'∧w'.ownsRow w.heap.size 34 2 (.slice A n c) n (folCells r.1)
set_option maxRecDepth 100000 in
set_option maxHeartbeats 8000000 in
theorem r_narrowed (l:Led) (v:Vw) (T:List Bool) (D:List (Int × Int)) (s:Sgt) (A:Option Addr) (n c:Nat) (w:World) (hl:LedOk l) (hTt:v.Tn=v.x.tn) (hn:n=v.x.tn) (hd:LedIn w w.heap.size v.x l) (hT:Sq QB 1 w w.heap.size v.TA v.Tn T) (hD:Sq QF 2 w w.heap.size A n D) (hs:0≤s.day∧s.day≤1000000) :
 Calls Tryz.prog 193 #[vwV v,.slice A n c,.agg #[.int .i64 s.src,.int .i64 s.per,.int .i64 s.pap,.int .i64 s.leaf,.int .i64 s.day,.int .i64 s.kn,.int .i64 s.un]] w (RetNr (refN l T v.kn D s) n w):=by
 obtain ⟨⟨pA,pn,pc,rA,rn,rc,tA,tn,tc,sA,sn,sc⟩,kn,TA,Tn,Tc,DA,Dn,Dc⟩:=v
 obtain rfl:Tn=tn:=hTt
 obtain rfl:Tn=n:=hn.symm
 show Calls _ _ #[.agg #[.slice pA pn pc,.slice rA rn rc,.slice tA Tn tc,.slice sA sn sc,.int .i64 kn,.slice TA Tn Tc,.slice DA Dn Dc],_,_] _ (RetNr (refN l T kn D s) Tn w)
 have HR:Hid (Rcs w w.heap.size rA rn l.rc):=by show Sq _ _ _ _ _ _ _;exact hd.r
 have HT:Hid (Rts w w.heap.size tA Tn l.rt):=by show Sq _ _ _ _ _ _ _;exact hd.t
 have hrn6:rn≤1000000:=by have h:=HR.out.len;have h2:=hl.rn;omega
 have htn6:Tn≤60:=by have h:=HT.out.len;have h2:=hl.tn;omega
 have htn7:Tn≤1000000:=by omega
 have hDl:D.length=Tn:=hD.len
 have hcl:=folCells_len D
 have hw:IntKind.i64.wrap (s.day+1)=s.day+1:=IntWalk.i64_in _ (by omega)
 have HLA:Hid (∀ (W:World) (k:Int),Below w.heap.size w W→lastI (lastK kn s.pap s.leaf s.day l.rc l.rc.length)=k→Calls Tryz.prog 173 #[.agg #[.slice pA pn pc,.slice rA rn rc,.slice tA Tn tc,.slice sA sn sc,.int .i64 kn,.slice TA Tn Tc,.slice DA Dn Dc],.agg #[.int .i64 s.pap,.int .i64 s.leaf],.int .i64 s.day] W fun e w'=>e=.returned (.int .i64 k)∧Below W.heap.size W w'):=by
  show ∀ _,_
  exact fun W k hW h=>r_last_v l ⟨⟨pA,pn,pc,rA,rn,rc,tA,Tn,tc,sA,sn,sc⟩,kn,TA,Tn,Tc,DA,Dn,Dc⟩ s.pap s.leaf s.day k W hrn6 (hd.now hW) h
 have HRO:Hid (∀ (W:World) (a:Nat) (x:Rcp) (k:Int),Below w.heap.size w W→l.rc[a]?=some x→ixI (rtIx T l.rt x.src s.leaf)=k→Calls Tryz.prog 130 #[.agg #[.slice pA pn pc,.slice rA rn rc,.slice tA Tn tc,.slice sA sn sc,.int .i64 kn,.slice TA Tn Tc,.slice DA Dn Dc],.int .i64 a,.int .i64 s.leaf] W fun e w'=>e=.returned (.int .i64 k)∧Below W.heap.size W w'):=by
  show ∀ _,_
  exact fun W a x k hW ha h2=>r_returnOf_v l ⟨⟨pA,pn,pc,rA,rn,rc,tA,Tn,tc,sA,sn,sc⟩,kn,TA,Tn,Tc,DA,Dn,Dc⟩ T a x s.leaf k W hrn6 htn7 rfl (hd.now hW) (hT.now abB hW) ha h2
 have HDD:=Lib.hid (rd_of_fos hD)
 have HON:=Lib.hid (folCells_one D)
 have HTL:Hid (l.rt.length=Tn):=by show _=_;exact HT.out.len
 obtain ⟨i0,hi,hz0,hz1,hz2⟩:=info_parts infoRg
 clear hd hT hD hl
 obtain ⟨N,hN⟩:∃ N,refN l T kn D s=N:=⟨_,rfl⟩
 go_enter Tryz.func193,Tryz.ntmps193
 have hem:=own_emptyB2 ((w.alloc (.cells #[.slice pA pn pc,.slice rA rn rc,.slice tA Tn tc,.slice sA sn sc,.int .i64 kn,.slice TA Tn Tc,.slice DA Dn Dc] 127)).alloc (.cells #[.int .i64 s.src,.int .i64 s.per,.int .i64 s.pap,.int .i64 s.leaf,.int .i64 s.day,.int .i64 s.kn,.int .i64 s.un] 38)) 34 2 (w.heap.size+1+1) (by simp)
 simp only [World.size_alloc] at hem
 have HEM:=Lib.hid hem
 clear hem
 go_wp2_with (at_builtin;refine wpList_app2 rfl (.tmp 12) (.tmp 13) 125 rfl (base:=w.heap.size+1+1) (B:=w.heap.size) (e:=34) (i:=i0) (size:=2) (bytes:=16) (v:=.slice (some ⟨w.heap.size+1+1,0,none⟩) 0 0) Tryz.underlying125 hi hz0 hz1 hz2 rfl (by decide) rfl rfl (n:=0) (xs:=[]) HEM.out (m:=Tn) (news:=folCells D) (Rd.ext HDD.out (by exact bel_) (Nat.le_refl _)) HON.out (by unfold maxLen;omega) (by omega) (by simp) ?_;intro v2 w2 hown2 hgrow2 hb2;simp only [Nat.zero_add,List.nil_append] at hown2;have bV:=((((BoxA.new w 127 #[.slice pA pn pc,.slice rA rn rc,.slice tA Tn tc,.slice sA sn sc,.int .i64 kn,.slice TA Tn Tc,.slice DA Dn Dc]).alloc (.cells #[.int .i64 s.src,.int .i64 s.per,.int .i64 s.pap,.int .i64 s.leaf,.int .i64 s.day,.int .i64 s.kn,.int .i64 s.un] 38)).alloc (.cells #[] 34)).kept hgrow2 (by simp [Value.ownBlock];omega));have bS0:BoxA ((w.alloc (.cells #[.slice pA pn pc,.slice rA rn rc,.slice tA Tn tc,.slice sA sn sc,.int .i64 kn,.slice TA Tn Tc,.slice DA Dn Dc] 127)).alloc (.cells #[.int .i64 s.src,.int .i64 s.per,.int .i64 s.pap,.int .i64 s.leaf,.int .i64 s.day,.int .i64 s.kn,.int .i64 s.un] 38)) (w.heap.size+1) 38 #[.int .i64 s.src,.int .i64 s.per,.int .i64 s.pap,.int .i64 s.leaf,.int .i64 s.day,.int .i64 s.kn,.int .i64 s.un]:=(by have h:=BoxA.new (w.alloc (.cells #[.slice pA pn pc,.slice rA rn rc,.slice tA Tn tc,.slice sA sn sc,.int .i64 kn,.slice TA Tn Tc,.slice DA Dn Dc] 127)) 38 #[.int .i64 s.src,.int .i64 s.per,.int .i64 s.pap,.int .i64 s.leaf,.int .i64 s.day,.int .i64 s.kn,.int .i64 s.un];simpa using h);have bS:=((bS0.alloc (.cells #[] 34)).kept hgrow2 (by simp [Value.ownBlock]));have HB2:Below w.heap.size w w2:=(show Below w.heap.size w _ by exact bel_).trans (hb2.mono (by omega));obtain ⟨A2,c2,rfl,hcc⟩:=own_slice hown2;have hs2:=HB2.size;have kV:=bV.cell;have zV:=bV.lt;have kS:=bS.cell;have zS:=bS.lt;have HOWN:=Lib.hid hown2;have HBV:=Lib.hid bV;have HBS:=Lib.hid bS;clear hown2 hgrow2 hb2 bV bS bS0 HEM)
 cases hL:lastK kn s.pap s.leaf s.day l.rc l.rc.length with
 | none =>
   have HLV:Hid (lastI (lastK kn s.pap s.leaf s.day l.rc l.rc.length)=-1):=by show _=_;rw [hL];rfl
   have HN:Hid (refN l T kn D s=(D,decide (s.per=0))):=by show _=_;rw [refN,hL]
   clear hL hN
   refine (HLA.out _ (-1) HB2 HLV.out).mono ?_
   rintro e w3 ⟨rfl,hb3⟩
   have bS3:=HBS.out.ext hb3
   have kS3:=bS3.cell
   have zS3:=bS3.lt
   have HB3:=Below.then_ HB2 hb3
   have HOW:=Lib.hid (own_ext HOWN.out hb3)
   clear kS zS kV zV hb3 bS3
   go_wp2_with fail
   (refine rg_ ?_;(repeat (go_big_quiet_step (fail)));refine qn_ fun w1 hb1 hc1 hf1=>?_)
   go_wp2_with fail
   go_ret2
   rw [HN.out]
   exact ⟨_,_,rfl,Below.then_ HB3 hb1,own_dn (own_ext HOW.out hb1) (by omega)⟩
 | some p =>
   obtain ⟨a,dd⟩:=p
   obtain ⟨-,x,hx,-⟩:=lastK_at hL
   have HLV:Hid (lastI (lastK kn s.pap s.leaf s.day l.rc l.rc.length)=(a:Int)):=by show _=_;rw [hL];rfl
   have hia:a<rn:=by rw [← HR.out.len];exact (List.getElem?_eq_some_iff.1 hx).1
   obtain ⟨bx,ox,x',rfl,hbx,hxx,A1,n1,c1,⟨-,g1,-,-,-,-,-⟩,-,-,-⟩:=HR.out.at_ hia
   obtain rfl:x=x':=Option.some.inj (hx.symm.trans hxx)
   have hxn:decide ((a:Int)<0)=false:=by simp
   obtain ⟨q,hq⟩:∃ q,rtIx T l.rt x.src s.leaf=q:=⟨_,rfl⟩
   have hNQ:refN l T kn D s=refNQ D s x q:=by rw [← hq];exact refN_eq hL hx
   have HX:=Lib.hid hx
   refine (HLA.out _ a HB2 HLV.out).mono ?_
   rintro e w3 ⟨rfl,hb3⟩
   have bV3:=HBV.out.ext hb3
   have bS3:=HBS.out.ext hb3
   have HB3:=Below.then_ HB2 hb3
   have HOW:=Lib.hid (own_ext HOWN.out hb3)
   have kV3:=bV3.cell
   have zV3:=bV3.lt
   have kS3:=bS3.cell
   have zS3:=bS3.lt
   have HBV3:=Lib.hid bV3
   have HBS3:=Lib.hid bS3
   clear kS zS kV zV hb3 bS3 bV3 hL hN hx hxx
   go_wp2_with fail
   have HKI:Hid (ixI (rtIx T l.rt x.src s.leaf)=ixI q):=by show _=_;rw [hq]
   refine (HRO.out _ a x (ixI q) HB3 HX.out HKI.out).mono ?_
   rintro e w4 ⟨rfl,hb4⟩
   have HB4:=Below.then_ HB3 hb4
   have bV4:=HBV3.out.ext hb4
   have bS4:=HBS3.out.ext hb4
   have kV:=bV4.cell
   have zV:=bV4.lt
   have kS:=bS4.cell
   have zS:=bS4.lt
   have HBV4:=Lib.hid bV4
   have HBS4:=Lib.hid bS4
   have HOW4:=Lib.hid (own_ext HOW.out hb4)
   have d1:=(HB4.cell (p:=⟨bx,ox+a*7+1,none⟩) hbx).trans g1
   have hs4:=HB4.size
   have hbx4:bx<w4.heap.size:=by omega
   clear kV3 zV3 kS3 zS3 hb4 bV4 bS4 g1
   go_wp2_with fail
   (refine rg_ ?_;(repeat (go_big_quiet_step (fail)));refine qn_ fun w1 hb1 hc1 hf1=>?_)
   obtain ⟨w5,rfl⟩:∃ w5,w5=w1:=⟨_,rfl⟩
   have HB5:=Below.then_ HB4 hb1
   have HOW5:=Lib.hid (own_ext HOW4.out hb1)
   have bV5:=HBV4.out.ext hb1
   have bS5:=HBS4.out.ext hb1
   have hs5:=HB5.size
   clear kV zV kS zS d1 hbx4 hb1 hc1 hf1
   have kV:=bV5.cell
   have zV:=bV5.lt
   have kS:=bS5.cell
   have zS:=bS5.lt
   have HBS5:=Lib.hid bS5
   clear bV5 bS5
   cases q with
   | none =>
     have HN:Hid (refN l T kn D s=(D,decide (s.per=x.bor))):=by show _=_;exact hNQ
     have hneg:decide ((-1:Int)<0)=true:=by decide
     clear hNQ hq
     simp only [ixI]
     go_wp2_with fail
     go_ret2
     rw [HN.out]
     exact ⟨_,_,rfl,HB5,own_dn HOW5.out (by omega)⟩
   | some i =>
     obtain ⟨-,t,ht,-,-⟩:=rt_some hq
     have hit:i<Tn:=by rw [← HTL.out];exact (List.getElem?_eq_some_iff.1 ht).1
     have hin:decide ((i:Int)<0)=false:=by simp
     have HN:=Lib.hid hNQ
     clear hNQ hq ht
     simp only [ixI]
     by_cases hmi:s.per=x.bor
     ·have hmd:(s.per == x.bor)=true:=by simpa using hmi
      have HMI:=Lib.hid hmi
      clear hmi
      obtain ⟨g,cap,hv,hg0,hg1,hg2,hg3⟩:=own_shape2 HOW5.out (by omega)
      simp only [Value.slice.injEq,true_and] at hv
      obtain ⟨rfl,rfl⟩:=hv
      have hown5:=HOW5.out
      obtain ⟨d,hdi⟩:∃ d,D[i]?=some d:=⟨_,List.getElem?_eq_getElem (by omega)⟩
      have hgd:D.getD i (0,0)=d:=by rw [List.getD_eq_getElem?_getD,hdi];rfl
      obtain ⟨q0,q1⟩:=folCells_get D i d hdi
      have fz:=hown5.frozenAt
      replace q0:=(hown5.cellAt (i*2) (by omega)).trans q0
      replace q1:=(hown5.cellAt (i*2+1) (by omega)).trans q1
      (try simp only [Nat.zero_add] at q0 q1)
      have HST:=Lib.hid (hown5.stored (i*2) (.int .i64 (max d.1 (s.day+1)))).1
      rw [folCells_setLo (max d.1 (s.day+1)) hdi] at HST
      have HNS:Hid (refN l T kn D s=(D.set i (max d.1 (s.day+1),d.2),decide ((max d.1 (s.day+1),d.2).1≤(max d.1 (s.day+1),d.2).2))):=by
       show _=_
       rw [HN.out,refNQ]
       simp only [hgd]
       rw [if_pos HMI.out]
      clear hgd hdi hown5
      go_wp2_with fail
      have bS5:=HBS5.out
      have cS5:w5.drew.cell? ⟨w.heap.size+1,4,none⟩=some (.int .i64 s.day):=(bS5.cell 4).trans rfl
      have gn:w.heap.size+1≠g:=by omega
      (refine wp_region_held_lit (S:=(fun V=>V.cell? ⟨w.heap.size+1,4,none⟩=some (.int .i64 s.day))) 14 (by kernel_rfl) rfl cS5 (fun hS=>?_);simp only [List.reduceReplicate,Array.replicate_succ,Array.replicate_zero])
      (refine tk_ (i:=0) (v:=?_) rfl ?_ hS ?_ (fun _ _ _ h=>h);rotate_left;focus (intro w2 hw2;(try dsimp only at hw2);go_split_ands;go_simp;first | done | with_reducible rfl);(try simp only [Act.put,pu1,pu2,pu3]))
      (refine tk_ (i:=1) (v:=?_) rfl ?_ hS ?_ (fun _ _ _ h=>h);rotate_left;focus (intro w2 hw2;(try dsimp only at hw2);go_split_ands;go_simp;first | done | with_reducible rfl);(try simp only [Act.put,pu1,pu2,pu3]))
      (refine tk_ (i:=2) (v:=?_) rfl ?_ hS ?_ (fun _ _ _ h=>h);rotate_left;focus (intro w2 hw2;(try dsimp only at hw2);go_split_ands;go_simp;first | done | with_reducible rfl);(try simp only [Act.put,pu1,pu2,pu3]))
      (refine tk_ (i:=3) (v:=?_) rfl ?_ hS ?_ (fun _ _ _ h=>h);rotate_left;focus (intro w2 hw2;(try dsimp only at hw2);go_split_ands;go_simp;first | done | with_reducible rfl);(try simp only [Act.put,pu1,pu2,pu3]))
      (refine tk_ (i:=4) (v:=?_) rfl ?_ hS ?_ (fun _ _ _ h=>h);rotate_left;focus (intro w2 hw2;(try dsimp only at hw2);go_split_ands;go_simp;first | done | with_reducible rfl);(try simp only [Act.put,pu1,pu2,pu3]))
      (refine tk_ (i:=5) (v:=?_) rfl ?_ hS ?_ (fun _ _ _ h=>h);rotate_left;focus (intro w2 hw2;(try dsimp only at hw2);go_split_ands;go_simp;first | done | with_reducible rfl);(try simp only [Act.put,pu1,pu2,pu3]))
      (refine tk_ (i:=7) (v:=?_) rfl ?_ hS ?_ (fun _ _ _ h=>h);rotate_left;focus (intro w2 hw2;(try dsimp only at hw2);go_split_ands;go_simp;first | done | with_reducible rfl);(try simp only [Act.put,pu1,pu2,pu3]))
      (refine tk_ (i:=8) (v:=?_) rfl ?_ hS ?_ (fun _ _ _ h=>h);rotate_left;focus (intro w2 hw2;(try dsimp only at hw2);go_split_ands;go_simp;first | done | with_reducible rfl);(try simp only [Act.put,pu1,pu2,pu3]))
      (refine tk_ (i:=9) (v:=?_) rfl ?_ hS ?_ (fun _ _ _ h=>h);rotate_left;focus (intro w2 hw2;(try dsimp only at hw2);go_split_ands;go_simp;first | done | with_reducible rfl);(try simp only [Act.put,pu1,pu2,pu3]))
      refine rd_ [6] ?_
      refine ah1 rfl fun K hK=>?_
      go_simp
      refine hK.out _ _ cS5 (fun hS=>?_)
      clear hK K
      (try simp only [Act.put,pu1,pu2,pu3])
      (refine tk_ (i:=10) (v:=?_) rfl ?_ hS ?_ (fun _ _ _ h=>h);rotate_left;focus (intro w2 hw2;(try dsimp only at hw2);go_split_ands;go_simp;first | done | with_reducible rfl);(try simp only [Act.put,pu1,pu2,pu3]))
      (refine tk_ (i:=11) (v:=?_) rfl ?_ hS ?_ (fun _ _ _ h=>h);rotate_left;focus (intro w2 hw2;(try dsimp only at hw2);go_split_ands;go_simp;first | done | with_reducible rfl);(try simp only [Act.put,pu1,pu2,pu3]))
      (refine tk_ (i:=12) (v:=?_) rfl ?_ hS ?_ (fun _ _ _ h=>h);rotate_left;focus (intro w2 hw2;(try dsimp only at hw2);go_split_ands;go_simp;first | done | with_reducible rfl);(try simp only [Act.put,pu1,pu2,pu3]))
      refine rd_ [13] ?_
      refine ah1 rfl fun K hK=>?_
      go_simp
      refine hK.out _ _ (((bS5.drewB.other gn _).cell 4).trans rfl) (fun hS=>?_)
      clear hK K
      (try simp only [Act.put,pu1,pu2,pu3])
      refine wpAnyH_done (by kernel_rfl) ?_ _
      have hB6:Below w.heap.size w (w5.setCell ⟨g,i*2,none⟩ (.int .i64 (max d.1 (s.day+1)))).drew:=((HB5.setCell (show w.heap.size≤g by omega) _).drew)
      have HST2:Hid ((w5.setCell ⟨g,i*2,none⟩ (.int .i64 (max d.1 (s.day+1)))).drew.ownsRow (w.heap.size+1+1) 34 2 (.slice (some ⟨g,0,none⟩) Tn c2) Tn (folCells (D.set i (max d.1 (s.day+1),d.2)))):=by show World.ownsRow _ _ _ _ _ _ _;exact own_ext HST.out ((Below.refl _ _).drew)
      have hset:(D.set i (max d.1 (s.day+1),d.2))[i]?=some (max d.1 (s.day+1),d.2):=by rw [List.getElem?_set_self (by omega)]
      obtain ⟨z0,z1⟩:=folCells_get (D.set i (max d.1 (s.day+1),d.2)) i (max d.1 (s.day+1),d.2) hset
      replace z0:=(HST2.out.cellAt (i*2) (by omega)).trans z0
      replace z1:=(HST2.out.cellAt (i*2+1) (by omega)).trans z1
      (try simp only [Nat.zero_add] at z0 z1)
      obtain ⟨W6,hW6⟩:∃ W6,(w5.setCell ⟨g,i*2,none⟩ (.int .i64 (max d.1 (s.day+1)))).drew=W6:=⟨_,rfl⟩
      rw [hW6] at hB6 HST2 z0 z1 ⊢
      have hg6:g<W6.heap.size:=by rw [← hW6];simp;omega
      clear hW6 hset q0 q1 fz kS zS kV zV HST
      go_wp2_with fail
      (refine rg_ ?_;(repeat (go_big_quiet_step (fail)));refine qn_ fun w1 hb1 hc1 hf1=>?_)
      go_wp2_with fail
      go_ret2
      rw [HNS.out]
      have hB1:=Below.then_ hB6 hb1
      exact ⟨_,_,rfl,hB1,own_dn (own_ext HST2.out hb1) (by omega)⟩
     ·have hmd:(s.per == x.bor)=false:=by simpa using hmi
      have HMI:Hid (¬ s.per=x.bor):=by show ¬ _;exact hmi
      clear hmi
      by_cases hze:s.per=0
      ·have hzd:(s.per == 0)=true:=by simpa using hze
       have HZE:=Lib.hid hze
       clear hze
       obtain ⟨g,cap,hv,hg0,hg1,hg2,hg3⟩:=own_shape2 HOW5.out (by omega)
       simp only [Value.slice.injEq,true_and] at hv
       obtain ⟨rfl,rfl⟩:=hv
       have hown5:=HOW5.out
       obtain ⟨d,hdi⟩:∃ d,D[i]?=some d:=⟨_,List.getElem?_eq_getElem (by omega)⟩
       have hgd:D.getD i (0,0)=d:=by rw [List.getD_eq_getElem?_getD,hdi];rfl
       obtain ⟨q0,q1⟩:=folCells_get D i d hdi
       have fz:=hown5.frozenAt
       replace q0:=(hown5.cellAt (i*2) (by omega)).trans q0
       replace q1:=(hown5.cellAt (i*2+1) (by omega)).trans q1
       (try simp only [Nat.zero_add] at q0 q1)
       have HST:=Lib.hid (hown5.stored (i*2+1) (.int .i64 (min d.2 s.day))).1
       rw [folCells_setHi (min d.2 s.day) hdi] at HST
       have HNS:Hid (refN l T kn D s=(D.set i (d.1,min d.2 s.day),decide ((d.1,min d.2 s.day).1≤(d.1,min d.2 s.day).2))):=by
        show _=_
        rw [HN.out,refNQ]
        simp only [hgd]
        rw [if_neg HMI.out,if_pos HZE.out]
       clear hgd hdi hown5
       go_wp2_with fail
       have bS5:=HBS5.out
       have cS5:w5.drew.cell? ⟨w.heap.size+1,4,none⟩=some (.int .i64 s.day):=(bS5.cell 4).trans rfl
       have gn:w.heap.size+1≠g:=by omega
       (refine wp_region_held_lit (S:=(fun V=>V.cell? ⟨w.heap.size+1,4,none⟩=some (.int .i64 s.day))) 13 (by kernel_rfl) rfl cS5 (fun hS=>?_);simp only [List.reduceReplicate,Array.replicate_succ,Array.replicate_zero])
       (refine tk_ (i:=0) (v:=?_) rfl ?_ hS ?_ (fun _ _ _ h=>h);rotate_left;focus (intro w2 hw2;(try dsimp only at hw2);go_split_ands;go_simp;first | done | with_reducible rfl);(try simp only [Act.put,pu1,pu2,pu3]))
       (refine tk_ (i:=1) (v:=?_) rfl ?_ hS ?_ (fun _ _ _ h=>h);rotate_left;focus (intro w2 hw2;(try dsimp only at hw2);go_split_ands;go_simp;first | done | with_reducible rfl);(try simp only [Act.put,pu1,pu2,pu3]))
       (refine tk_ (i:=2) (v:=?_) rfl ?_ hS ?_ (fun _ _ _ h=>h);rotate_left;focus (intro w2 hw2;(try dsimp only at hw2);go_split_ands;go_simp;first | done | with_reducible rfl);(try simp only [Act.put,pu1,pu2,pu3]))
       (refine tk_ (i:=3) (v:=?_) rfl ?_ hS ?_ (fun _ _ _ h=>h);rotate_left;focus (intro w2 hw2;(try dsimp only at hw2);go_split_ands;go_simp;first | done | with_reducible rfl);(try simp only [Act.put,pu1,pu2,pu3]))
       (refine tk_ (i:=4) (v:=?_) rfl ?_ hS ?_ (fun _ _ _ h=>h);rotate_left;focus (intro w2 hw2;(try dsimp only at hw2);go_split_ands;go_simp;first | done | with_reducible rfl);(try simp only [Act.put,pu1,pu2,pu3]))
       (refine tk_ (i:=5) (v:=?_) rfl ?_ hS ?_ (fun _ _ _ h=>h);rotate_left;focus (intro w2 hw2;(try dsimp only at hw2);go_split_ands;go_simp;first | done | with_reducible rfl);(try simp only [Act.put,pu1,pu2,pu3]))
       (refine tk_ (i:=7) (v:=?_) rfl ?_ hS ?_ (fun _ _ _ h=>h);rotate_left;focus (intro w2 hw2;(try dsimp only at hw2);go_split_ands;go_simp;first | done | with_reducible rfl);(try simp only [Act.put,pu1,pu2,pu3]))
       (refine tk_ (i:=8) (v:=?_) rfl ?_ hS ?_ (fun _ _ _ h=>h);rotate_left;focus (intro w2 hw2;(try dsimp only at hw2);go_split_ands;go_simp;first | done | with_reducible rfl);(try simp only [Act.put,pu1,pu2,pu3]))
       refine rd_ [6] ?_
       refine ah1 rfl fun K hK=>?_
       go_simp
       refine hK.out _ _ cS5 (fun hS=>?_)
       clear hK K
       (try simp only [Act.put,pu1,pu2,pu3])
       (refine tk_ (i:=9) (v:=?_) rfl ?_ hS ?_ (fun _ _ _ h=>h);rotate_left;focus (intro w2 hw2;(try dsimp only at hw2);go_split_ands;go_simp;first | done | with_reducible rfl);(try simp only [Act.put,pu1,pu2,pu3]))
       (refine tk_ (i:=10) (v:=?_) rfl ?_ hS ?_ (fun _ _ _ h=>h);rotate_left;focus (intro w2 hw2;(try dsimp only at hw2);go_split_ands;go_simp;first | done | with_reducible rfl);(try simp only [Act.put,pu1,pu2,pu3]))
       (refine tk_ (i:=11) (v:=?_) rfl ?_ hS ?_ (fun _ _ _ h=>h);rotate_left;focus (intro w2 hw2;(try dsimp only at hw2);go_split_ands;go_simp;first | done | with_reducible rfl);(try simp only [Act.put,pu1,pu2,pu3]))
       refine rd_ [12] ?_
       refine ah1 rfl fun K hK=>?_
       go_simp
       refine hK.out _ _ (((bS5.drewB.other gn _).cell 4).trans rfl) (fun hS=>?_)
       clear hK K
       (try simp only [Act.put,pu1,pu2,pu3])
       refine wpAnyH_done (by kernel_rfl) ?_ _
       have hB6:Below w.heap.size w (w5.setCell ⟨g,i*2+1,none⟩ (.int .i64 (min d.2 s.day))).drew:=((HB5.setCell (show w.heap.size≤g by omega) _).drew)
       have HST2:Hid ((w5.setCell ⟨g,i*2+1,none⟩ (.int .i64 (min d.2 s.day))).drew.ownsRow (w.heap.size+1+1) 34 2 (.slice (some ⟨g,0,none⟩) Tn c2) Tn (folCells (D.set i (d.1,min d.2 s.day)))):=by show World.ownsRow _ _ _ _ _ _ _;exact own_ext HST.out ((Below.refl _ _).drew)
       have hset:(D.set i (d.1,min d.2 s.day))[i]?=some (d.1,min d.2 s.day):=by rw [List.getElem?_set_self (by omega)]
       obtain ⟨z0,z1⟩:=folCells_get (D.set i (d.1,min d.2 s.day)) i (d.1,min d.2 s.day) hset
       replace z0:=(HST2.out.cellAt (i*2) (by omega)).trans z0
       replace z1:=(HST2.out.cellAt (i*2+1) (by omega)).trans z1
       (try simp only [Nat.zero_add] at z0 z1)
       obtain ⟨W6,hW6⟩:∃ W6,(w5.setCell ⟨g,i*2+1,none⟩ (.int .i64 (min d.2 s.day))).drew=W6:=⟨_,rfl⟩
       rw [hW6] at hB6 HST2 z0 z1 ⊢
       have hg6:g<W6.heap.size:=by rw [← hW6];simp;omega
       clear hW6 hset q0 q1 fz kS zS kV zV HST
       go_wp2_with fail
       (refine rg_ ?_;(repeat (go_big_quiet_step (fail)));refine qn_ fun w1 hb1 hc1 hf1=>?_)
       go_wp2_with fail
       go_ret2
       rw [HNS.out]
       have hB1:=Below.then_ hB6 hb1
       exact ⟨_,_,rfl,hB1,own_dn (own_ext HST2.out hb1) (by omega)⟩
      ·have hzd:(s.per == 0)=false:=by simpa using hze
       have HNF:Hid (refN l T kn D s=(D,false)):=by
        show _=_
        rw [HN.out,refNQ,if_neg HMI.out,if_neg hze]
       clear hze
       go_wp2_with fail
       go_ret2
       rw [HNF.out]
       exact ⟨_,_,rfl,HB5,own_dn HOW5.out (by omega)⟩
end Go.Proofs.YtoiompoapikkbaaGreat
/- Layer 2, the reference: days by receipts and sights; contradict. -/
namespace Go.Proofs.YtoiompoapikkbaaGreat
open Go.RowKit Go.Maps
section
variable {P:Program} {o:Oper} {Q:Exit→Act→World→Prop}
theorem wp_region_bheld {id:Nat} {a:Act} {w:World} {l:List Oper} (n:Nat) (hm:P.follows .mixedOrders=true) (hn:l.length=n)
 (h:Below w.heap.size w w.drew→wpAnyH P .any l.toArray Q (fun V=>Below w.heap.size w V) n (Array.replicate n false) a w.drew):(Code.region id l.toArray true).wp P Q a w :=
 wp_region_held_lit (S:=fun V=>Below w.heap.size w V) n hm hn ((Below.refl _ _).drew) h
end
theorem byR_false {l:Led} {T:List Bool} {kn:Int} {i:Nat} (h:T[i]?=some false):byR l T kn i=(0,100000):=by
 rw [byR,h]
theorem byR_true {l:Led} {kn:Int} {i:Nat} {t:Rtn} (hT:(tellK l kn l.rt.length)[i]?=some true) (ht:l.rt[i]?=some t):∃ ix r,rcIx l.rc t.rcp kn=some ix∧l.rc[ix]?=some r∧byR l (tellK l kn l.rt.length) kn i=(max t.lo (r.day+1),l.rc.foldl (refHi kn r t.lv) t.hi):=by
 have h1:(opnK kn (cntR l kn) l.rt l.rt.length l.rt.length).T[i]?=some true:=by rw [tell_opn l kn _ (Nat.le_refl _)];exact hT
 obtain ⟨r,hr,-⟩:=opn_P kn (cntR l kn) l.rt l.rt.length (Nat.le_refl _) i t h1 ht
 have hr2:=hr
 rw [findR_cnt] at hr2
 obtain ⟨ix,hix,hrc⟩:=Option.bind_eq_some_iff.1 hr2
 exact ⟨ix,r,hix,hrc,by rw [byR,hT,ht];simp only [hr]⟩
theorem r_byReceipts (l:Led) (v:Vw) (i:Nat) (w:World) (hl:LedOk l) (hTt:v.Tn=v.x.tn) (hd:LedIn w w.heap.size v.x l) (hT:Sq QB 1 w w.heap.size v.TA v.Tn (tellK l v.kn l.rt.length)) (hi:i<l.rt.length) :
 Calls Tryz.prog 192 #[vwV v,.int .i64 i] w fun e w'=>e=.returned (.agg #[.int .i64 (byR l (tellK l v.kn l.rt.length) v.kn i).1,.int .i64 (byR l (tellK l v.kn l.rt.length) v.kn i).2])∧Below w.heap.size w w':=by
 have hlen:i<(tellK l v.kn l.rt.length).length:=by rw [tellK_len];exact hi
 obtain ⟨t,ht⟩:∃ t,l.rt[i]?=some t:=⟨_,List.getElem?_eq_getElem hi⟩
 cases hb:(tellK l v.kn l.rt.length)[i] with
 | false =>
   have h1:(tellK l v.kn l.rt.length)[i]?=some false:=by rw [List.getElem?_eq_getElem hlen,hb]
   rw [byR_false h1]
   exact r_byReceipts0 l v _ i w (by have h:=hd.t.len;have h2:=hl.tn;omega) hT h1
 | true =>
   have h1:(tellK l v.kn l.rt.length)[i]?=some true:=by rw [List.getElem?_eq_getElem hlen,hb]
   obtain ⟨ix,r,hix,hrc,he⟩:=byR_true h1 ht
   rw [he]
   exact r_byReceipts1 l v _ i ix t r w hl hTt hd hT h1 ht hix hrc
theorem refL_snoc (l:Led) (T:List Bool) (kn:Int) (s:Sgt):∀ (S:List Sgt) (D:List (Int × Int)),refL l T kn (S ++ [s]) D=((refN l T kn (refL l T kn S D).1 s).1,(refL l T kn S D).2 && (refN l T kn (refL l T kn S D).1 s).2)
 | [],D=>by simp [refL]
 | x :: S,D=>by
   rw [List.cons_append,refL,refL_snoc l T kn s S,refL]
   simp only [Bool.and_assoc]
theorem refN_len (l:Led) (T:List Bool) (kn:Int) (D:List (Int × Int)) (s:Sgt):(refN l T kn D s).1.length=D.length:=by
 unfold refN
 split
 ·rfl
 ·split
  ·rfl
  ·split
   ·rfl
   ·split
    ·rw [List.length_set]
    ·split
     ·rw [List.length_set]
     ·rfl
theorem refL_len (l:Led) (T:List Bool) (kn:Int):∀ (S:List Sgt) (D:List (Int × Int)),(refL l T kn S D).1.length=D.length
 | [],D=>rfl
 | s :: S,D=>by rw [refL];exact (refL_len l T kn S _).trans (refN_len l T kn D s)
def byK (l:Led) (kn:Int) (k:Nat):List (Int × Int):=(List.range k).map (byR l (tellK l kn l.rt.length) kn)
theorem byK_succ (l:Led) (kn:Int) (k:Nat):byK l kn (k+1)=byK l kn k ++ [byR l (tellK l kn l.rt.length) kn k]:=by
 rw [byK,List.range_succ,List.map_append];rfl
theorem byK_len (l:Led) (kn:Int) (k:Nat):(byK l kn k).length=k:=by simp [byK]
set_option maxRecDepth 100000 in
set_option maxHeartbeats 8000000 in
theorem r_days (l:Led) (v:Vw) (I:List Int) (S:List Sgt) (A:Option Addr) (m c:Nat) (w:World) (hl:LedOk l) (hTt:v.Tn=v.x.tn) (hd:LedIn w w.heap.size v.x l) (hT:Sq QB 1 w w.heap.size v.TA v.Tn (tellK l v.kn l.rt.length)) (hm:m≤1000000) (hI:Is w w.heap.size A m I) (h0:∀ i∈I,0≤i) (hIS:I.map (fun i=>l.sg[i.toNat]?)=S.map some) :
 Calls Tryz.prog 167 #[vwV v,.slice A m c] w (RetNr (refL l (tellK l v.kn l.rt.length) v.kn S (byL l v.kn)) v.x.tn w):=by
 obtain ⟨⟨pA,pn,pc,rA,rn,rc,tA,tn,tc,sA,sn,sc⟩,kn,TA,Tn,Tc,DA,Dn,Dc⟩:=v
 obtain rfl:Tn=tn:=hTt
 show Calls _ _ #[.agg #[.slice pA pn pc,.slice rA rn rc,.slice tA Tn tc,.slice sA sn sc,.int .i64 kn,.slice TA Tn Tc,.slice DA Dn Dc],_] _ (RetNr (refL l (tellK l kn l.rt.length) kn S (byL l kn)) Tn w)
 have HTL:Hid (l.rt.length=Tn):=by show _=_;exact hd.t.len
 have htn6:Tn≤60:=by have h:=HTL.out;have h2:=hl.tn;omega
 have HSG:Hid (Sgs w w.heap.size sA sn l.sg):=by show Sq _ _ _ _ _ _ _;exact hd.s
 have hIL:I.length=m:=hI.len
 have hSL:S.length=m:=by have h:=congrArg List.length hIS;simpa [hIL] using h.symm
 have HIS:Hid (∀ k,k<m→∃ (j:Nat) (s:Sgt),I[k]?=some (j:Int)∧l.sg[j]?=some s∧S[k]?=some s):=by
  show ∀ _,_
  intro k hk
  have hi:I[k]?=some I[k]:=List.getElem?_eq_getElem (by omega)
  have hs:S[k]?=some S[k]:=List.getElem?_eq_getElem (by omega)
  have h1:=congrArg (fun L=>L[k]?) hIS
  simp only [List.getElem?_map,hi,hs,Option.map_some] at h1
  have h2:=h0 I[k] (List.getElem_mem _)
  exact ⟨I[k].toNat,S[k],by rw [hi];congr 1;omega,Option.some.inj h1,hs⟩
 have HBY:Hid (∀ (W:World) (i:Nat),Below w.heap.size w W→i<l.rt.length→Calls Tryz.prog 192 #[.agg #[.slice pA pn pc,.slice rA rn rc,.slice tA Tn tc,.slice sA sn sc,.int .i64 kn,.slice TA Tn Tc,.slice DA Dn Dc],.int .i64 i] W fun e w'=>e=.returned (.agg #[.int .i64 (byR l (tellK l kn l.rt.length) kn i).1,.int .i64 (byR l (tellK l kn l.rt.length) kn i).2])∧Below W.heap.size W w'):=by
  show ∀ _,_
  exact fun W i hW hi=>r_byReceipts l ⟨⟨pA,pn,pc,rA,rn,rc,tA,Tn,tc,sA,sn,sc⟩,kn,TA,Tn,Tc,DA,Dn,Dc⟩ i W hl rfl (hd.now hW) (hT.now abB hW) hi
 have HNR:Hid (∀ (W:World) (D:List (Int × Int)) (s:Sgt) (A:Option Addr) (c:Nat),Below w.heap.size w W→Sq QF 2 W W.heap.size A Tn D→s∈l.sg→Calls Tryz.prog 193 #[.agg #[.slice pA pn pc,.slice rA rn rc,.slice tA Tn tc,.slice sA sn sc,.int .i64 kn,.slice TA Tn Tc,.slice DA Dn Dc],.slice A Tn c,.agg #[.int .i64 s.src,.int .i64 s.per,.int .i64 s.pap,.int .i64 s.leaf,.int .i64 s.day,.int .i64 s.kn,.int .i64 s.un]] W (RetNr (refN l (tellK l kn l.rt.length) kn D s) Tn W)):=by
  show ∀ _,_
  exact fun W D s A c hW hD hs=>r_narrowed l ⟨⟨pA,pn,pc,rA,rn,rc,tA,Tn,tc,sA,sn,sc⟩,kn,TA,Tn,Tc,DA,Dn,Dc⟩ (tellK l kn l.rt.length) D s A Tn c W hl rfl rfl (hd.now hW) (hT.now abB hW) hD (hl.sg s hs).2
 have HI:=Lib.hid hI
 obtain ⟨i0,hi,hz0,hz1,hz2⟩:=info_parts infoRg
 clear hd hT hl hI h0 hIS
 go_enter Tryz.func167,Tryz.ntmps167
 go_wp2_with fail
 go_loopw [6,7] (fun u i wr=>∃ k:Nat,k≤Tn∧i=.int .i64 k∧wr.ownsRow (w.heap.size+1) 34 2 u k (folCells (byK l kn k))∧Below w.heap.size w wr∧BoxA wr w.heap.size 127 #[.slice pA pn pc,.slice rA rn rc,.slice tA Tn tc,.slice sA sn sc,.int .i64 kn,.slice TA Tn Tc,.slice DA Dn Dc]) (fun _ i _=>Tn - (intOf i).toNat)
 case atStart=>exact ⟨0,by omega,rfl,World.ownsRow_nil _ _ _ _,by exact bel_,BoxA.new _ _ _⟩
 case round =>
  obtain ⟨k,hk,rfl,hown,hB,bV⟩:=hrel
  have kV:=bV.cell
  have zV:=bV.lt
  have hs0:=hB.size
  by_cases hlt:k<Tn
  ·obtain ⟨d,hdd⟩:∃ d,byR l (tellK l kn l.rt.length) kn k=d:=⟨_,rfl⟩
   have HBS:Hid (byK l kn (k+1)=byK l kn k ++ [d]):=by show _=_;rw [byK_succ,hdd]
   have hbk:=byK_len l kn k
   have hfl:=folCells_len (byK l kn k)
   have HO:=Lib.hid hown
   have HBV:=Lib.hid bV
   clear hown bV
   go_wp2_with fail
   refine (HBY.out _ k hB (by rw [HTL.out];exact hlt)).mono ?_
   rw [hdd]
   rintro e w2 ⟨rfl,hb2⟩
   have hown2:=own_ext HO.out hb2
   have hz:=hb2.size
   clear hdd kV
   go_wp2_with (at_builtin;refine wpList_append_own _ rfl (.tmp 20) (.tmp 24) 125 rfl (w.heap.size+1) 34 i0 _ 2 16 Tryz.underlying125 hi hz0 hz1 hz2 rfl (by decide) _ _ _ rfl (hown2.alloc _) ⟨w2.heap.size,0,none⟩ 1 1 [.int .i64 d.1,.int .i64 d.2] rfl rfl ?c1 ?c2 ?c3 ?c4 ?c5 ?_;rotate_left 5;intro v' w3 hown3 hgrow3 _)
   case c1=>intro j u hj;match j,hj with
    | 0,hj=>simp at hj;subst hj;simp [Addr.add]
    | 1,hj=>simp at hj;subst hj;simp [Addr.add]
    | j+2,hj=>simp at hj
   case c2=>simp [Value.oneCell']
   case c3=>unfold maxLen;omega
   case c4=>omega
   case c5=>first | omega | (simp;omega)
   go_roundw
   case rel =>
    have hB2:=Below.then_ hB hb2
    refine ⟨k+1,by omega,by go_num,?_,?_,?_⟩
    ·rw [HBS.out]
     have e1:folCells (byK l kn k ++ [d])=folCells (byK l kn k) ++ [.int .i64 d.1,.int .i64 d.2]:=by simp [folCells]
     rw [e1]
     exact hown3
    ·exact (hB2.alloc hB2.size _).grown hgrow3 (by simp;omega) fun b e=>Nat.le_trans (Nat.le_succ _) (own_le hown2 e)
    ·exact ((HBV.out.ext hb2).alloc _).kept hgrow3 (fun e=>by have h:=own_le hown2 e.symm;omega)
   case measure=>exact ms_
  ·obtain rfl:k=Tn:=by omega
   obtain ⟨A1,c1,rfl,hcc⟩:=own_slice hown
   have hD0:wr.ownsRow w.heap.size 34 2 (.slice A1 k c1) k (folCells (byL l kn)):=by
    have h:=own_dn hown (Nat.le_succ _)
    rwa [show byK l kn k=byL l kn by (show byK l kn k=byK l kn l.rt.length;rw [HTL.out])] at h
   have HD0:=Lib.hid hD0
   obtain ⟨wo,rfl⟩:∃ wo,wo=wr:=⟨_,rfl⟩
   have HBV:=Lib.hid bV
   clear hown bV hD0
   go_wp2_with fail
   go_loopw [6,8,9] (fun u a i wr=>∃ (j:Nat) (A2:Option Addr) (c2:Nat),j≤m∧i=.int .i64 j∧u=.slice A2 k c2∧a=.bool (refL l (tellK l kn l.rt.length) kn (S.take j) (byL l kn)).2∧wr.ownsRow w.heap.size 34 2 (.slice A2 k c2) k (folCells (refL l (tellK l kn l.rt.length) kn (S.take j) (byL l kn)).1)∧Below wo.heap.size wo wr) (fun _ _ i _=>m - (intOf i).toNat)
   case atStart=>exact ⟨0,A1,c1,by omega,rfl,rfl,rfl,HD0.out,Below.refl _ _⟩
   case round =>
    obtain ⟨j,A2,c2,hj,rfl,rfl,rfl,hsq,hQ⟩:=hrel
    have hRl:(refL l (tellK l kn l.rt.length) kn (S.take j) (byL l kn)).1.length=k:=by rw [refL_len,byL_len,HTL.out]
    obtain ⟨R,hR⟩:∃ R,refL l (tellK l kn l.rt.length) kn (S.take j) (byL l kn)=R:=⟨_,rfl⟩
    rw [hR] at hsq hRl
    rw [hR]
    have bVq:=HBV.out.ext hQ
    have kVq:=bVq.cell
    have zVq:=bVq.lt
    have hBq:Below w.heap.size w wr:=hB.trans (hQ.mono hs0)
    have hsq0:=hBq.size
    have HSQ:=Lib.hid hsq
    clear hsq kV zV bVq
    by_cases hjm:j<m
    ·obtain ⟨ii,s,hik,hsg,hSk⟩:=HIS.out j hjm
     obtain ⟨bi,oi,y,rfl,hbi,hy,hcy⟩:=HI.out.at_ hjm
     obtain rfl:(ii:Int)=y:=Option.some.inj (hik.symm.trans hy)
     have hiis:ii<sn:=by rw [← HSG.out.len];exact (List.getElem?_eq_some_iff.1 hsg).1
     obtain ⟨bs,os,s',rfl,hbs,hxs,a0,a1,a2,a3,a4,a5,a6⟩:=HSG.out.at_ hiis
     obtain rfl:s=s':=Option.some.inj (hsg.symm.trans hxs)
     have cy:=(hBq.cell (p:=⟨bi,oi+j,none⟩) hbi).trans hcy
     have d0:=(hBq.cell (p:=⟨bs,os+ii*7,none⟩) hbs).trans a0
     have d1:=(hBq.cell (p:=⟨bs,os+ii*7+1,none⟩) hbs).trans a1
     have d2:=(hBq.cell (p:=⟨bs,os+ii*7+2,none⟩) hbs).trans a2
     have d3:=(hBq.cell (p:=⟨bs,os+ii*7+3,none⟩) hbs).trans a3
     have d4:=(hBq.cell (p:=⟨bs,os+ii*7+4,none⟩) hbs).trans a4
     have d5:=(hBq.cell (p:=⟨bs,os+ii*7+5,none⟩) hbs).trans a5
     have d6:=(hBq.cell (p:=⟨bs,os+ii*7+6,none⟩) hbs).trans a6
     have hbir:bi<wr.heap.size:=by omega
     have hbsr:bs<wr.heap.size:=by omega
     have HRS:Hid (refL l (tellK l kn l.rt.length) kn (S.take (j+1)) (byL l kn)=((refN l (tellK l kn l.rt.length) kn R.1 s).1,R.2 && (refN l (tellK l kn l.rt.length) kn R.1 s).2)):=by show _=_;rw [take_snoc_some hSk,refL_snoc,hR]
     have HSM:=Lib.hid (List.mem_of_getElem? hsg)
     clear hik hsg hSk hy hxs hcy a0 a1 a2 a3 a4 a5 a6 hR
     go_wp2_with fail
     (refine wp_region_bheld 17 (by kernel_rfl) rfl (fun hS=>?_);simp only [List.reduceReplicate,Array.replicate_succ,Array.replicate_zero])
     (refine tk_ (i:=0) (v:=?_) rfl ?_ hS ?_ (fun _ _ _ h=>h);rotate_left;focus (intro w2 hw2;(try dsimp only at hw2);obtain ⟨hc2,hf2⟩:=bcell hw2;go_simp;first | done | with_reducible rfl);(try simp only [Act.put,pu1,pu2,pu3]))
     (refine tk_ (i:=1) (v:=?_) rfl ?_ hS ?_ (fun _ _ _ h=>h);rotate_left;focus (intro w2 hw2;(try dsimp only at hw2);obtain ⟨hc2,hf2⟩:=bcell hw2;go_simp;first | done | with_reducible rfl);(try simp only [Act.put,pu1,pu2,pu3]))
     (refine tk_ (i:=2) (v:=?_) rfl ?_ hS ?_ (fun _ _ _ h=>h);rotate_left;focus (intro w2 hw2;(try dsimp only at hw2);obtain ⟨hc2,hf2⟩:=bcell hw2;go_simp;first | done | with_reducible rfl);(try simp only [Act.put,pu1,pu2,pu3]))
     (refine tk_ (i:=3) (v:=?_) rfl ?_ hS ?_ (fun _ _ _ h=>h);rotate_left;focus (intro w2 hw2;(try dsimp only at hw2);obtain ⟨hc2,hf2⟩:=bcell hw2;go_simp;first | done | with_reducible rfl);(try simp only [Act.put,pu1,pu2,pu3]))
     (refine tk_ (i:=4) (v:=?_) rfl ?_ hS ?_ (fun _ _ _ h=>h);rotate_left;focus (intro w2 hw2;(try dsimp only at hw2);obtain ⟨hc2,hf2⟩:=bcell hw2;go_simp;first | done | with_reducible rfl);(try simp only [Act.put,pu1,pu2,pu3]))
     (refine tk_ (i:=5) (v:=?_) rfl ?_ hS ?_ (fun _ _ _ h=>h);rotate_left;focus (intro w2 hw2;(try dsimp only at hw2);obtain ⟨hc2,hf2⟩:=bcell hw2;go_simp;first | done | with_reducible rfl);(try simp only [Act.put,pu1,pu2,pu3]))
     (refine tk_ (i:=6) (v:=?_) rfl ?_ hS ?_ (fun _ _ _ h=>h);rotate_left;focus (intro w2 hw2;(try dsimp only at hw2);obtain ⟨hc2,hf2⟩:=bcell hw2;go_simp;first | done | with_reducible rfl);(try simp only [Act.put,pu1,pu2,pu3]))
     (refine tk_ (i:=7) (v:=?_) rfl ?_ hS ?_ (fun _ _ _ h=>h);rotate_left;focus (intro w2 hw2;(try dsimp only at hw2);obtain ⟨hc2,hf2⟩:=bcell hw2;go_simp;first | done | with_reducible rfl);(try simp only [Act.put,pu1,pu2,pu3]))
     (refine tk_ (i:=8) (v:=?_) rfl ?_ hS ?_ (fun _ _ _ h=>h);rotate_left;focus (intro w2 hw2;(try dsimp only at hw2);obtain ⟨hc2,hf2⟩:=bcell hw2;go_simp;first | done | with_reducible rfl);(try simp only [Act.put,pu1,pu2,pu3]))
     (refine tk_ (i:=9) (v:=?_) rfl ?_ hS ?_ (fun _ _ _ h=>h);rotate_left;focus (intro w2 hw2;(try dsimp only at hw2);obtain ⟨hc2,hf2⟩:=bcell hw2;go_simp;first | done | with_reducible rfl);(try simp only [Act.put,pu1,pu2,pu3]))
     (refine tk_ (i:=10) (v:=?_) rfl ?_ hS ?_ (fun _ _ _ h=>h);rotate_left;focus (intro w2 hw2;(try dsimp only at hw2);obtain ⟨hc2,hf2⟩:=bcell hw2;go_simp;first | done | with_reducible rfl);(try simp only [Act.put,pu1,pu2,pu3]))
     refine rd_ [11] ?_
     refine ah1 rfl fun K hK=>?_
     (go_simp;refine (HNR.out _ R.1 s A2 c2 (by exact bel_) (sq_of_own (own_ext HSQ.out ((Below.refl _ _).drew)) hRl) HSM.out).mono ?_;rintro e w3 ⟨A3,c3,rfl,hb3,hsq3⟩;go_simp)
     have h3:Below wr.heap.size wr w3:=Below.then_ hS hb3
     refine hK.out _ _ h3 (fun hS=>?_)
     clear hK K
     (try simp only [Act.put,pu1,pu2,pu3])
     (refine tk_ (i:=12) (v:=?_) rfl ?_ hS ?_ (fun _ _ _ h=>h);rotate_left;focus (intro w2 hw2;(try dsimp only at hw2);obtain ⟨hc2,hf2⟩:=bcell hw2;go_simp;first | done | with_reducible rfl);(try simp only [Act.put,pu1,pu2,pu3]))
     (refine tk_ (i:=13) (v:=?_) rfl ?_ hS ?_ (fun _ _ _ h=>h);rotate_left;focus (intro w2 hw2;(try dsimp only at hw2);obtain ⟨hc2,hf2⟩:=bcell hw2;go_simp;first | done | with_reducible rfl);(try simp only [Act.put,pu1,pu2,pu3]))
     (refine tk_ (i:=14) (v:=?_) rfl ?_ hS ?_ (fun _ _ _ h=>h);rotate_left;focus (intro w2 hw2;(try dsimp only at hw2);obtain ⟨hc2,hf2⟩:=bcell hw2;go_simp;first | done | with_reducible rfl);(try simp only [Act.put,pu1,pu2,pu3]))
     (refine tk_ (i:=15) (v:=?_) rfl ?_ hS ?_ (fun _ _ _ h=>h);rotate_left;focus (intro w2 hw2;(try dsimp only at hw2);obtain ⟨hc2,hf2⟩:=bcell hw2;go_simp;first | done | with_reducible rfl);(try simp only [Act.put,pu1,pu2,pu3]))
     (refine tk_ (i:=16) (v:=?_) rfl ?_ hS ?_ (fun _ _ _ h=>h);rotate_left;focus (intro w2 hw2;(try dsimp only at hw2);obtain ⟨hc2,hf2⟩:=bcell hw2;go_simp;first | done | with_reducible rfl);(try simp only [Act.put,pu1,pu2,pu3]))
     refine wpAnyH_done (by kernel_rfl) ?_ _
     have HSQ3:=Lib.hid (own_dn hsq3 (show w.heap.size≤wr.drew.heap.size from hsq0))
     obtain ⟨N,hN⟩:∃ N,refN l (tellK l kn l.rt.length) kn R.1 s=N:=⟨_,rfl⟩
     rw [hN] at HSQ3 HRS ⊢
     obtain ⟨R1,R2⟩:=R
     clear hsq3 hN cy d0 d1 d2 d3 d4 d5 d6 kVq zVq hb3 hS hRl
     have hQ3:=Below.then_ hQ h3
     cases R2 with
     | false =>
       go_wp2_with fail
       go_roundw
       case rel=>exact ⟨j+1,A3,c3,by omega,by go_num,rfl,by rw [HRS.out];rfl,by rw [HRS.out];exact HSQ3.out,hQ3⟩
       case measure=>exact ms_
     | true =>
       go_wp2_with fail
       go_roundw
       case rel=>exact ⟨j+1,A3,c3,by omega,by go_num,rfl,by rw [HRS.out];rfl,by rw [HRS.out];exact HSQ3.out,hQ3⟩
       case measure=>exact ms_
    ·have hjS:Hid (refL l (tellK l kn l.rt.length) kn S (byL l kn)=R):=by
      show _=_
      rw [← hR,List.take_of_length_le (by omega)]
     clear hR
     go_wp2_with fail
     go_ret2
     rw [hjS.out]
     exact ⟨_,_,rfl,hBq,HSQ.out⟩
set_option maxRecDepth 10000 in
set_option maxHeartbeats 4000000 in
theorem r_contradict (l:Led) (v:Vw) (I:List Int) (S:List Sgt) (q:Bool) (A:Option Addr) (m c:Nat) (w:World) (hl:ledB l=true) (hTt:v.Tn=v.x.tn) (hd:LedIn w w.heap.size v.x l) (hT:Sq QB 1 w w.heap.size v.TA v.Tn (tellK l v.kn l.rt.length)) (hm:m≤1000000) (hI:Is w w.heap.size A m I) (h0:∀ i∈I,0≤i) (hIS:I.map (fun i=>l.sg[i.toNat]?)=S.map some) (hq:conB l v.kn S=q) :
 Calls Tryz.prog 111 #[vwV v,.slice A m c] w fun e w'=>e=.returned (.bool q)∧Below w.heap.size w w':=by
 have HC:Hid (∀ W:World,Below w.heap.size w W→Calls Tryz.prog 167 #[vwV v,.slice A m c] W (RetNr (refL l (tellK l v.kn l.rt.length) v.kn S (byL l v.kn)) v.x.tn W)):=by
  show ∀ _,_
  exact fun W hW=>r_days l v I S A m c W (led_ok hl) hTt (hd.now hW) (hT.now abB hW) hm (hI.now hW) h0 hIS
 rw [con_ref hl] at hq
 obtain ⟨⟨pA,pn,pc,rA,rn,rc,tA,tn,tc,sA,sn,sc⟩,kn,TA,Tn,Tc,DA,Dn,Dc⟩:=v
 obtain rfl:Tn=tn:=hTt
 obtain ⟨⟨R1,R2⟩,hR⟩:∃ R,refL l (tellK l kn l.rt.length) kn S (byL l kn)=R:=⟨_,rfl⟩
 have HC2:Hid (∀ W:World,Below w.heap.size w W→Calls Tryz.prog 167 #[.agg #[.slice pA pn pc,.slice rA rn rc,.slice tA Tn tc,.slice sA sn sc,.int .i64 kn,.slice TA Tn Tc,.slice DA Dn Dc],.slice A m c] W (RetNr (R1,R2) Tn W)):=by
  show ∀ _,_
  rw [← hR]
  exact HC.out
 dsimp only at hq
 rw [hR] at hq
 subst hq
 show Calls _ _ #[.agg #[.slice pA pn pc,.slice rA rn rc,.slice tA Tn tc,.slice sA sn sc,.int .i64 kn,.slice TA Tn Tc,.slice DA Dn Dc],_] _ _
 clear hd hT hI h0 hIS hl HC hR
 go_enter Tryz.func111,Tryz.ntmps111
 go_wp2_with (go_at_call 167;refine (HC2.out _ (by exact bel_)).mono ?_;rintro e w3 ⟨A3,c3,rfl,hb3,hsq3⟩)
 go_ret
 exact ⟨rfl,Below.then_ (by exact bel_) hb3⟩
end Go.Proofs.YtoiompoapikkbaaGreat
