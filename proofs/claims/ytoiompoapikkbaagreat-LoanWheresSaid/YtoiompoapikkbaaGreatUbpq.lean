/- Layer 2 of the texts that LoanWheres takes: Ubpq. -/
import Derived.Test.YtoiompoapikkbaaGreatUbnq
set_option linter.unusedVariables false
set_option linter.unusedSimpArgs false
/- Layer 2, the reference: narrowed. -/
namespace Go.Proofs.YtoiompoapikkbaaGreat
open Go.RowKit Go.Maps
theorem infoRg:(Tryz.prog.info? 34).map (fun i=>(i.zero,i.size,i.bytes))=some (some (.agg #[.int .i64 0,.int .i64 0]),2,16):=by kernel_rfl
theorem r_last_v (l:Led) (v:Vw) (pap leaf day k:Int) (w:World) (hn:v.x.rn≤1000000) (hd:LedIn w w.heap.size v.x l) (h:lastI (lastK v.kn pap leaf day l.rc l.rc.length)=k) :
 Calls Tryz.prog 173 #[vwV v,.agg #[.int .i64 pap,.int .i64 leaf],.int .i64 day] w fun e w'=>e=.returned (.int .i64 k)∧Below w.heap.size w w':=h ▸ r_last l v pap leaf day w hn hd
def refNQ (D:List (Int × Int)) (s:Sgt) (x:Rcp):Option Nat→List (Int × Int) × Bool
 | none=>(D,decide (s.per=x.bor))
 | some k=>if s.per=x.bor then (D.set k (max (D.getD k (0,0)).1 (s.day+1),(D.getD k (0,0)).2),decide (max (D.getD k (0,0)).1 (s.day+1)≤(D.getD k (0,0)).2))
   else if s.per=0 then (D.set k ((D.getD k (0,0)).1,min (D.getD k (0,0)).2 s.day),decide ((D.getD k (0,0)).1≤min (D.getD k (0,0)).2 s.day))
   else (D,false)
theorem refN_eq {l:Led} {T:List Bool} {kn:Int} {D:List (Int × Int)} {s:Sgt} {p:Nat × Int} {x:Rcp} (hL:lastK kn s.pap s.leaf s.day l.rc l.rc.length=some p) (hx:l.rc[p.1]?=some x):refN l T kn D s=refNQ D s x (rtIx T l.rt x.src s.leaf):=by
 rw [refN,hL]
 dsimp only
 simp only [hx]
 cases rtIx T l.rt x.src s.leaf <;> rfl
def RetNr (r:List (Int × Int) × Bool) (n:Nat) (w:World) (e:Ending) (w':World):Prop:=∃ A c,e=.returned (.tuple #[.slice A n c,.bool r.2])∧Below w.heap.size w w'∧w'.ownsRow w.heap.size 34 2 (.slice A n c) n (folCells r.1)
set_option maxRecDepth 100000 in
set_option maxHeartbeats 8000000 in
theorem r_narrowed (l:Led) (v:Vw) (T:List Bool) (D:List (Int × Int)) (s:Sgt) (A:Option Addr) (n c:Nat) (w:World) (hl:LedOk l) (hTt:v.Tn=v.x.tn) (hn:n=v.x.tn) (hd:LedIn w w.heap.size v.x l) (hT:Sq QB 1 w w.heap.size v.TA v.Tn T) (hD:Sq QF 2 w w.heap.size A n D) (hs:0≤s.day∧s.day≤1000000) :
 Calls Tryz.prog 193 #[vwV v,.slice A n c,.agg #[.int .i64 s.src,.int .i64 s.per,.int .i64 s.pap,.int .i64 s.leaf,.int .i64 s.day,.int .i64 s.kn,.int .i64 s.un]] w (RetNr (refN l T v.kn D s) n w):=by
 obtain ⟨⟨pA,pn,pc,rA,rn,rc,tA,tn,tc,sA,sn,sc⟩,kn,TA,Tn,Tc,DA,Dn,Dc⟩:=v
 obtain rfl:Tn=tn:=hTt
 obtain rfl:Tn=n:=hn.symm
 show Calls _ _ #[.agg #[.slice pA pn pc,.slice rA rn rc,.slice tA Tn tc,.slice sA sn sc,.int .i64 kn,.slice TA Tn Tc,.slice DA Dn Dc],_,_] _ (RetNr (refN l T kn D s) Tn w)
 have HR:Hid (Rcs w w.heap.size rA rn l.rc):=by show Sq _ _ _ _ _ _ _;exact hd.r
 have HT:Hid (Rts w w.heap.size tA Tn l.rt):=by show Sq _ _ _ _ _ _ _;exact hd.t
 have hrn6:rn≤1000000:=by have h:=HR.out.len;have h2:=hl.rn;omega
 have htn6:Tn≤60:=by have h:=HT.out.len;have h2:=hl.tn;omega
 have htn7:Tn≤1000000:=by omega
 have hDl:D.length=Tn:=hD.len
 have hcl:=folCells_len D
 have hw:IntKind.i64.wrap (s.day+1)=s.day+1:=IntWalk.i64_in _ (by omega)
 have HLA:Hid (∀ (W:World) (k:Int),Below w.heap.size w W→lastI (lastK kn s.pap s.leaf s.day l.rc l.rc.length)=k→Calls Tryz.prog 173 #[.agg #[.slice pA pn pc,.slice rA rn rc,.slice tA Tn tc,.slice sA sn sc,.int .i64 kn,.slice TA Tn Tc,.slice DA Dn Dc],.agg #[.int .i64 s.pap,.int .i64 s.leaf],.int .i64 s.day] W fun e w'=>e=.returned (.int .i64 k)∧Below W.heap.size W w'):=by
  show ∀ _,_
  exact fun W k hW h=>r_last_v l ⟨⟨pA,pn,pc,rA,rn,rc,tA,Tn,tc,sA,sn,sc⟩,kn,TA,Tn,Tc,DA,Dn,Dc⟩ s.pap s.leaf s.day k W hrn6 (hd.now hW) h
 have HRO:Hid (∀ (W:World) (a:Nat) (x:Rcp) (k:Int),Below w.heap.size w W→l.rc[a]?=some x→ixI (rtIx T l.rt x.src s.leaf)=k→Calls Tryz.prog 130 #[.agg #[.slice pA pn pc,.slice rA rn rc,.slice tA Tn tc,.slice sA sn sc,.int .i64 kn,.slice TA Tn Tc,.slice DA Dn Dc],.int .i64 a,.int .i64 s.leaf] W fun e w'=>e=.returned (.int .i64 k)∧Below W.heap.size W w'):=by
  show ∀ _,_
  exact fun W a x k hW ha h2=>r_returnOf_v l ⟨⟨pA,pn,pc,rA,rn,rc,tA,Tn,tc,sA,sn,sc⟩,kn,TA,Tn,Tc,DA,Dn,Dc⟩ T a x s.leaf k W hrn6 htn7 rfl (hd.now hW) (hT.now abB hW) ha h2
 have HDD:=Lib.hid (rd_of_fos hD)
 have HON:=Lib.hid (folCells_one D)
 have HTL:Hid (l.rt.length=Tn):=by show _=_;exact HT.out.len
 obtain ⟨i0,hi,hz0,hz1,hz2⟩:=info_parts infoRg
 clear hd hT hD hl
 obtain ⟨N,hN⟩:∃ N,refN l T kn D s=N:=⟨_,rfl⟩
 go_enter Tryz.func193,Tryz.ntmps193
 have hem:=own_emptyB2 ((w.alloc (.cells #[.slice pA pn pc,.slice rA rn rc,.slice tA Tn tc,.slice sA sn sc,.int .i64 kn,.slice TA Tn Tc,.slice DA Dn Dc] 127)).alloc (.cells #[.int .i64 s.src,.int .i64 s.per,.int .i64 s.pap,.int .i64 s.leaf,.int .i64 s.day,.int .i64 s.kn,.int .i64 s.un] 38)) 34 2 (w.heap.size+1+1) (by simp)
 simp only [World.size_alloc] at hem
 have HEM:=Lib.hid hem
 clear hem
 go_wp2_with (at_builtin;refine wpList_app2 rfl (.tmp 12) (.tmp 13) 125 rfl (base:=w.heap.size+1+1) (B:=w.heap.size) (e:=34) (i:=i0) (size:=2) (bytes:=16) (v:=.slice (some ⟨w.heap.size+1+1,0,none⟩) 0 0) Tryz.underlying125 hi hz0 hz1 hz2 rfl (by decide) rfl rfl (n:=0) (xs:=[]) HEM.out (m:=Tn) (news:=folCells D) (Rd.ext HDD.out (by exact bel_) (Nat.le_refl _)) HON.out (by unfold maxLen;omega) (by omega) (by simp) ?_;intro v2 w2 hown2 hgrow2 hb2;simp only [Nat.zero_add,List.nil_append] at hown2;have bV:=((((BoxA.new w 127 #[.slice pA pn pc,.slice rA rn rc,.slice tA Tn tc,.slice sA sn sc,.int .i64 kn,.slice TA Tn Tc,.slice DA Dn Dc]).alloc (.cells #[.int .i64 s.src,.int .i64 s.per,.int .i64 s.pap,.int .i64 s.leaf,.int .i64 s.day,.int .i64 s.kn,.int .i64 s.un] 38)).alloc (.cells #[] 34)).kept hgrow2 (by simp [Value.ownBlock];omega));have bS0:BoxA ((w.alloc (.cells #[.slice pA pn pc,.slice rA rn rc,.slice tA Tn tc,.slice sA sn sc,.int .i64 kn,.slice TA Tn Tc,.slice DA Dn Dc] 127)).alloc (.cells #[.int .i64 s.src,.int .i64 s.per,.int .i64 s.pap,.int .i64 s.leaf,.int .i64 s.day,.int .i64 s.kn,.int .i64 s.un] 38)) (w.heap.size+1) 38 #[.int .i64 s.src,.int .i64 s.per,.int .i64 s.pap,.int .i64 s.leaf,.int .i64 s.day,.int .i64 s.kn,.int .i64 s.un]:=(by have h:=BoxA.new (w.alloc (.cells #[.slice pA pn pc,.slice rA rn rc,.slice tA Tn tc,.slice sA sn sc,.int .i64 kn,.slice TA Tn Tc,.slice DA Dn Dc] 127)) 38 #[.int .i64 s.src,.int .i64 s.per,.int .i64 s.pap,.int .i64 s.leaf,.int .i64 s.day,.int .i64 s.kn,.int .i64 s.un];simpa using h);have bS:=((bS0.alloc (.cells #[] 34)).kept hgrow2 (by simp [Value.ownBlock]));have HB2:Below w.heap.size w w2:=(show Below w.heap.size w _ by exact bel_).trans (hb2.mono (by omega));obtain ⟨A2,c2,rfl,hcc⟩:=own_slice hown2;have hs2:=HB2.size;have kV:=bV.cell;have zV:=bV.lt;have kS:=bS.cell;have zS:=bS.lt;have HOWN:=Lib.hid hown2;have HBV:=Lib.hid bV;have HBS:=Lib.hid bS;clear hown2 hgrow2 hb2 bV bS bS0 HEM)
 cases hL:lastK kn s.pap s.leaf s.day l.rc l.rc.length with
 | none =>
   have HLV:Hid (lastI (lastK kn s.pap s.leaf s.day l.rc l.rc.length)=-1):=by show _=_;rw [hL];rfl
   have HN:Hid (refN l T kn D s=(D,decide (s.per=0))):=by show _=_;rw [refN,hL]
   clear hL hN
   refine (HLA.out _ (-1) HB2 HLV.out).mono ?_
   rintro e w3 ⟨rfl,hb3⟩
   have bS3:=HBS.out.ext hb3
   have kS3:=bS3.cell
   have zS3:=bS3.lt
   have HB3:=Below.then_ HB2 hb3
   have HOW:=Lib.hid (own_ext HOWN.out hb3)
   clear kS zS kV zV hb3 bS3
   go_wp2_with fail
   (refine rg_ ?_;(repeat (go_big_quiet_step (fail)));refine qn_ fun w1 hb1 hc1 hf1=>?_)
   go_wp2_with fail
   go_ret2
   rw [HN.out]
   exact ⟨_,_,rfl,Below.then_ HB3 hb1,own_dn (own_ext HOW.out hb1) (by omega)⟩
 | some p =>
   obtain ⟨a,dd⟩:=p
   obtain ⟨-,x,hx,-⟩:=lastK_at hL
   have HLV:Hid (lastI (lastK kn s.pap s.leaf s.day l.rc l.rc.length)=(a:Int)):=by show _=_;rw [hL];rfl
   have hia:a<rn:=by rw [← HR.out.len];exact (List.getElem?_eq_some_iff.1 hx).1
   obtain ⟨bx,ox,x',rfl,hbx,hxx,A1,n1,c1,⟨-,g1,-,-,-,-,-⟩,-,-,-⟩:=HR.out.at_ hia
   obtain rfl:x=x':=Option.some.inj (hx.symm.trans hxx)
   have hxn:decide ((a:Int)<0)=false:=by simp
   obtain ⟨q,hq⟩:∃ q,rtIx T l.rt x.src s.leaf=q:=⟨_,rfl⟩
   have hNQ:refN l T kn D s=refNQ D s x q:=by rw [← hq];exact refN_eq hL hx
   have HX:=Lib.hid hx
   refine (HLA.out _ a HB2 HLV.out).mono ?_
   rintro e w3 ⟨rfl,hb3⟩
   have bV3:=HBV.out.ext hb3
   have bS3:=HBS.out.ext hb3
   have HB3:=Below.then_ HB2 hb3
   have HOW:=Lib.hid (own_ext HOWN.out hb3)
   have kV3:=bV3.cell
   have zV3:=bV3.lt
   have kS3:=bS3.cell
   have zS3:=bS3.lt
   have HBV3:=Lib.hid bV3
   have HBS3:=Lib.hid bS3
   clear kS zS kV zV hb3 bS3 bV3 hL hN hx hxx
   go_wp2_with fail
   have HKI:Hid (ixI (rtIx T l.rt x.src s.leaf)=ixI q):=by show _=_;rw [hq]
   refine (HRO.out _ a x (ixI q) HB3 HX.out HKI.out).mono ?_
   rintro e w4 ⟨rfl,hb4⟩
   have HB4:=Below.then_ HB3 hb4
   have bV4:=HBV3.out.ext hb4
   have bS4:=HBS3.out.ext hb4
   have kV:=bV4.cell
   have zV:=bV4.lt
   have kS:=bS4.cell
   have zS:=bS4.lt
   have HBV4:=Lib.hid bV4
   have HBS4:=Lib.hid bS4
   have HOW4:=Lib.hid (own_ext HOW.out hb4)
   have d1:=(HB4.cell (p:=⟨bx,ox+a*7+1,none⟩) hbx).trans g1
   have hs4:=HB4.size
   have hbx4:bx<w4.heap.size:=by omega
   clear kV3 zV3 kS3 zS3 hb4 bV4 bS4 g1
   go_wp2_with fail
   (refine rg_ ?_;(repeat (go_big_quiet_step (fail)));refine qn_ fun w1 hb1 hc1 hf1=>?_)
   obtain ⟨w5,rfl⟩:∃ w5,w5=w1:=⟨_,rfl⟩
   have HB5:=Below.then_ HB4 hb1
   have HOW5:=Lib.hid (own_ext HOW4.out hb1)
   have bV5:=HBV4.out.ext hb1
   have bS5:=HBS4.out.ext hb1
   have hs5:=HB5.size
   clear kV zV kS zS d1 hbx4 hb1 hc1 hf1
   have kV:=bV5.cell
   have zV:=bV5.lt
   have kS:=bS5.cell
   have zS:=bS5.lt
   have HBS5:=Lib.hid bS5
   clear bV5 bS5
   cases q with
   | none =>
     have HN:Hid (refN l T kn D s=(D,decide (s.per=x.bor))):=by show _=_;exact hNQ
     have hneg:decide ((-1:Int)<0)=true:=by decide
     clear hNQ hq
     simp only [ixI]
     go_wp2_with fail
     go_ret2
     rw [HN.out]
     exact ⟨_,_,rfl,HB5,own_dn HOW5.out (by omega)⟩
   | some i =>
     obtain ⟨-,t,ht,-,-⟩:=rt_some hq
     have hit:i<Tn:=by rw [← HTL.out];exact (List.getElem?_eq_some_iff.1 ht).1
     have hin:decide ((i:Int)<0)=false:=by simp
     have HN:=Lib.hid hNQ
     clear hNQ hq ht
     simp only [ixI]
     by_cases hmi:s.per=x.bor
     ·have hmd:(s.per == x.bor)=true:=by simpa using hmi
      have HMI:=Lib.hid hmi
      clear hmi
      obtain ⟨g,cap,hv,hg0,hg1,hg2,hg3⟩:=own_shape2 HOW5.out (by omega)
      simp only [Value.slice.injEq,true_and] at hv
      obtain ⟨rfl,rfl⟩:=hv
      have hown5:=HOW5.out
      obtain ⟨d,hdi⟩:∃ d,D[i]?=some d:=⟨_,List.getElem?_eq_getElem (by omega)⟩
      have hgd:D.getD i (0,0)=d:=by rw [List.getD_eq_getElem?_getD,hdi];rfl
      obtain ⟨q0,q1⟩:=folCells_get D i d hdi
      have fz:=hown5.frozenAt
      replace q0:=(hown5.cellAt (i*2) (by omega)).trans q0
      replace q1:=(hown5.cellAt (i*2+1) (by omega)).trans q1
      (try simp only [Nat.zero_add] at q0 q1)
      have HST:=Lib.hid (hown5.stored (i*2) (.int .i64 (max d.1 (s.day+1)))).1
      rw [folCells_setLo (max d.1 (s.day+1)) hdi] at HST
      have HNS:Hid (refN l T kn D s=(D.set i (max d.1 (s.day+1),d.2),decide ((max d.1 (s.day+1),d.2).1≤(max d.1 (s.day+1),d.2).2))):=by
       show _=_
       rw [HN.out,refNQ]
       simp only [hgd]
       rw [if_pos HMI.out]
      clear hgd hdi hown5
      go_wp2_with fail
      have bS5:=HBS5.out
      have cS5:w5.drew.cell? ⟨w.heap.size+1,4,none⟩=some (.int .i64 s.day):=(bS5.cell 4).trans rfl
      have gn:w.heap.size+1≠g:=by omega
      (refine wp_region_held_lit (S:=(fun V=>V.cell? ⟨w.heap.size+1,4,none⟩=some (.int .i64 s.day))) 14 (by kernel_rfl) rfl cS5 (fun hS=>?_);simp only [List.reduceReplicate,Array.replicate_succ,Array.replicate_zero])
      (refine tk_ (i:=0) (v:=?_) rfl ?_ hS ?_ (fun _ _ _ h=>h);rotate_left;focus (intro w2 hw2;(try dsimp only at hw2);go_split_ands;go_simp;first | done | with_reducible rfl);(try simp only [Act.put,pu1,pu2,pu3]))
      (refine tk_ (i:=1) (v:=?_) rfl ?_ hS ?_ (fun _ _ _ h=>h);rotate_left;focus (intro w2 hw2;(try dsimp only at hw2);go_split_ands;go_simp;first | done | with_reducible rfl);(try simp only [Act.put,pu1,pu2,pu3]))
      (refine tk_ (i:=2) (v:=?_) rfl ?_ hS ?_ (fun _ _ _ h=>h);rotate_left;focus (intro w2 hw2;(try dsimp only at hw2);go_split_ands;go_simp;first | done | with_reducible rfl);(try simp only [Act.put,pu1,pu2,pu3]))
      (refine tk_ (i:=3) (v:=?_) rfl ?_ hS ?_ (fun _ _ _ h=>h);rotate_left;focus (intro w2 hw2;(try dsimp only at hw2);go_split_ands;go_simp;first | done | with_reducible rfl);(try simp only [Act.put,pu1,pu2,pu3]))
      (refine tk_ (i:=4) (v:=?_) rfl ?_ hS ?_ (fun _ _ _ h=>h);rotate_left;focus (intro w2 hw2;(try dsimp only at hw2);go_split_ands;go_simp;first | done | with_reducible rfl);(try simp only [Act.put,pu1,pu2,pu3]))
      (refine tk_ (i:=5) (v:=?_) rfl ?_ hS ?_ (fun _ _ _ h=>h);rotate_left;focus (intro w2 hw2;(try dsimp only at hw2);go_split_ands;go_simp;first | done | with_reducible rfl);(try simp only [Act.put,pu1,pu2,pu3]))
      (refine tk_ (i:=7) (v:=?_) rfl ?_ hS ?_ (fun _ _ _ h=>h);rotate_left;focus (intro w2 hw2;(try dsimp only at hw2);go_split_ands;go_simp;first | done | with_reducible rfl);(try simp only [Act.put,pu1,pu2,pu3]))
      (refine tk_ (i:=8) (v:=?_) rfl ?_ hS ?_ (fun _ _ _ h=>h);rotate_left;focus (intro w2 hw2;(try dsimp only at hw2);go_split_ands;go_simp;first | done | with_reducible rfl);(try simp only [Act.put,pu1,pu2,pu3]))
      (refine tk_ (i:=9) (v:=?_) rfl ?_ hS ?_ (fun _ _ _ h=>h);rotate_left;focus (intro w2 hw2;(try dsimp only at hw2);go_split_ands;go_simp;first | done | with_reducible rfl);(try simp only [Act.put,pu1,pu2,pu3]))
      refine rd_ [6] ?_
      refine ah1 rfl fun K hK=>?_
      go_simp
      refine hK.out _ _ cS5 (fun hS=>?_)
      clear hK K
      (try simp only [Act.put,pu1,pu2,pu3])
      (refine tk_ (i:=10) (v:=?_) rfl ?_ hS ?_ (fun _ _ _ h=>h);rotate_left;focus (intro w2 hw2;(try dsimp only at hw2);go_split_ands;go_simp;first | done | with_reducible rfl);(try simp only [Act.put,pu1,pu2,pu3]))
      (refine tk_ (i:=11) (v:=?_) rfl ?_ hS ?_ (fun _ _ _ h=>h);rotate_left;focus (intro w2 hw2;(try dsimp only at hw2);go_split_ands;go_simp;first | done | with_reducible rfl);(try simp only [Act.put,pu1,pu2,pu3]))
      (refine tk_ (i:=12) (v:=?_) rfl ?_ hS ?_ (fun _ _ _ h=>h);rotate_left;focus (intro w2 hw2;(try dsimp only at hw2);go_split_ands;go_simp;first | done | with_reducible rfl);(try simp only [Act.put,pu1,pu2,pu3]))
      refine rd_ [13] ?_
      refine ah1 rfl fun K hK=>?_
      go_simp
      refine hK.out _ _ (((bS5.drewB.other gn _).cell 4).trans rfl) (fun hS=>?_)
      clear hK K
      (try simp only [Act.put,pu1,pu2,pu3])
      refine wpAnyH_done (by kernel_rfl) ?_ _
      have hB6:Below w.heap.size w (w5.setCell ⟨g,i*2,none⟩ (.int .i64 (max d.1 (s.day+1)))).drew:=((HB5.setCell (show w.heap.size≤g by omega) _).drew)
      have HST2:Hid ((w5.setCell ⟨g,i*2,none⟩ (.int .i64 (max d.1 (s.day+1)))).drew.ownsRow (w.heap.size+1+1) 34 2 (.slice (some ⟨g,0,none⟩) Tn c2) Tn (folCells (D.set i (max d.1 (s.day+1),d.2)))):=by show World.ownsRow _ _ _ _ _ _ _;exact own_ext HST.out ((Below.refl _ _).drew)
      have hset:(D.set i (max d.1 (s.day+1),d.2))[i]?=some (max d.1 (s.day+1),d.2):=by rw [List.getElem?_set_self (by omega)]
      obtain ⟨z0,z1⟩:=folCells_get (D.set i (max d.1 (s.day+1),d.2)) i (max d.1 (s.day+1),d.2) hset
      replace z0:=(HST2.out.cellAt (i*2) (by omega)).trans z0
      replace z1:=(HST2.out.cellAt (i*2+1) (by omega)).trans z1
      (try simp only [Nat.zero_add] at z0 z1)
      obtain ⟨W6,hW6⟩:∃ W6,(w5.setCell ⟨g,i*2,none⟩ (.int .i64 (max d.1 (s.day+1)))).drew=W6:=⟨_,rfl⟩
      rw [hW6] at hB6 HST2 z0 z1 ⊢
      have hg6:g<W6.heap.size:=by rw [← hW6];simp;omega
      clear hW6 hset q0 q1 fz kS zS kV zV HST
      go_wp2_with fail
      (refine rg_ ?_;(repeat (go_big_quiet_step (fail)));refine qn_ fun w1 hb1 hc1 hf1=>?_)
      go_wp2_with fail
      go_ret2
      rw [HNS.out]
      have hB1:=Below.then_ hB6 hb1
      exact ⟨_,_,rfl,hB1,own_dn (own_ext HST2.out hb1) (by omega)⟩
     ·have hmd:(s.per == x.bor)=false:=by simpa using hmi
      have HMI:Hid (¬ s.per=x.bor):=by show ¬ _;exact hmi
      clear hmi
      by_cases hze:s.per=0
      ·have hzd:(s.per == 0)=true:=by simpa using hze
       have HZE:=Lib.hid hze
       clear hze
       obtain ⟨g,cap,hv,hg0,hg1,hg2,hg3⟩:=own_shape2 HOW5.out (by omega)
       simp only [Value.slice.injEq,true_and] at hv
       obtain ⟨rfl,rfl⟩:=hv
       have hown5:=HOW5.out
       obtain ⟨d,hdi⟩:∃ d,D[i]?=some d:=⟨_,List.getElem?_eq_getElem (by omega)⟩
       have hgd:D.getD i (0,0)=d:=by rw [List.getD_eq_getElem?_getD,hdi];rfl
       obtain ⟨q0,q1⟩:=folCells_get D i d hdi
       have fz:=hown5.frozenAt
       replace q0:=(hown5.cellAt (i*2) (by omega)).trans q0
       replace q1:=(hown5.cellAt (i*2+1) (by omega)).trans q1
       (try simp only [Nat.zero_add] at q0 q1)
       have HST:=Lib.hid (hown5.stored (i*2+1) (.int .i64 (min d.2 s.day))).1
       rw [folCells_setHi (min d.2 s.day) hdi] at HST
       have HNS:Hid (refN l T kn D s=(D.set i (d.1,min d.2 s.day),decide ((d.1,min d.2 s.day).1≤(d.1,min d.2 s.day).2))):=by
        show _=_
        rw [HN.out,refNQ]
        simp only [hgd]
        rw [if_neg HMI.out,if_pos HZE.out]
       clear hgd hdi hown5
       go_wp2_with fail
       have bS5:=HBS5.out
       have cS5:w5.drew.cell? ⟨w.heap.size+1,4,none⟩=some (.int .i64 s.day):=(bS5.cell 4).trans rfl
       have gn:w.heap.size+1≠g:=by omega
       (refine wp_region_held_lit (S:=(fun V=>V.cell? ⟨w.heap.size+1,4,none⟩=some (.int .i64 s.day))) 13 (by kernel_rfl) rfl cS5 (fun hS=>?_);simp only [List.reduceReplicate,Array.replicate_succ,Array.replicate_zero])
       (refine tk_ (i:=0) (v:=?_) rfl ?_ hS ?_ (fun _ _ _ h=>h);rotate_left;focus (intro w2 hw2;(try dsimp only at hw2);go_split_ands;go_simp;first | done | with_reducible rfl);(try simp only [Act.put,pu1,pu2,pu3]))
       (refine tk_ (i:=1) (v:=?_) rfl ?_ hS ?_ (fun _ _ _ h=>h);rotate_left;focus (intro w2 hw2;(try dsimp only at hw2);go_split_ands;go_simp;first | done | with_reducible rfl);(try simp only [Act.put,pu1,pu2,pu3]))
       (refine tk_ (i:=2) (v:=?_) rfl ?_ hS ?_ (fun _ _ _ h=>h);rotate_left;focus (intro w2 hw2;(try dsimp only at hw2);go_split_ands;go_simp;first | done | with_reducible rfl);(try simp only [Act.put,pu1,pu2,pu3]))
       (refine tk_ (i:=3) (v:=?_) rfl ?_ hS ?_ (fun _ _ _ h=>h);rotate_left;focus (intro w2 hw2;(try dsimp only at hw2);go_split_ands;go_simp;first | done | with_reducible rfl);(try simp only [Act.put,pu1,pu2,pu3]))
       (refine tk_ (i:=4) (v:=?_) rfl ?_ hS ?_ (fun _ _ _ h=>h);rotate_left;focus (intro w2 hw2;(try dsimp only at hw2);go_split_ands;go_simp;first | done | with_reducible rfl);(try simp only [Act.put,pu1,pu2,pu3]))
       (refine tk_ (i:=5) (v:=?_) rfl ?_ hS ?_ (fun _ _ _ h=>h);rotate_left;focus (intro w2 hw2;(try dsimp only at hw2);go_split_ands;go_simp;first | done | with_reducible rfl);(try simp only [Act.put,pu1,pu2,pu3]))
       (refine tk_ (i:=7) (v:=?_) rfl ?_ hS ?_ (fun _ _ _ h=>h);rotate_left;focus (intro w2 hw2;(try dsimp only at hw2);go_split_ands;go_simp;first | done | with_reducible rfl);(try simp only [Act.put,pu1,pu2,pu3]))
       (refine tk_ (i:=8) (v:=?_) rfl ?_ hS ?_ (fun _ _ _ h=>h);rotate_left;focus (intro w2 hw2;(try dsimp only at hw2);go_split_ands;go_simp;first | done | with_reducible rfl);(try simp only [Act.put,pu1,pu2,pu3]))
       refine rd_ [6] ?_
       refine ah1 rfl fun K hK=>?_
       go_simp
       refine hK.out _ _ cS5 (fun hS=>?_)
       clear hK K
       (try simp only [Act.put,pu1,pu2,pu3])
       (refine tk_ (i:=9) (v:=?_) rfl ?_ hS ?_ (fun _ _ _ h=>h);rotate_left;focus (intro w2 hw2;(try dsimp only at hw2);go_split_ands;go_simp;first | done | with_reducible rfl);(try simp only [Act.put,pu1,pu2,pu3]))
       (refine tk_ (i:=10) (v:=?_) rfl ?_ hS ?_ (fun _ _ _ h=>h);rotate_left;focus (intro w2 hw2;(try dsimp only at hw2);go_split_ands;go_simp;first | done | with_reducible rfl);(try simp only [Act.put,pu1,pu2,pu3]))
       (refine tk_ (i:=11) (v:=?_) rfl ?_ hS ?_ (fun _ _ _ h=>h);rotate_left;focus (intro w2 hw2;(try dsimp only at hw2);go_split_ands;go_simp;first | done | with_reducible rfl);(try simp only [Act.put,pu1,pu2,pu3]))
       refine rd_ [12] ?_
       refine ah1 rfl fun K hK=>?_
       go_simp
       refine hK.out _ _ (((bS5.drewB.other gn _).cell 4).trans rfl) (fun hS=>?_)
       clear hK K
       (try simp only [Act.put,pu1,pu2,pu3])
       refine wpAnyH_done (by kernel_rfl) ?_ _
       have hB6:Below w.heap.size w (w5.setCell ⟨g,i*2+1,none⟩ (.int .i64 (min d.2 s.day))).drew:=((HB5.setCell (show w.heap.size≤g by omega) _).drew)
       have HST2:Hid ((w5.setCell ⟨g,i*2+1,none⟩ (.int .i64 (min d.2 s.day))).drew.ownsRow (w.heap.size+1+1) 34 2 (.slice (some ⟨g,0,none⟩) Tn c2) Tn (folCells (D.set i (d.1,min d.2 s.day)))):=by show World.ownsRow _ _ _ _ _ _ _;exact own_ext HST.out ((Below.refl _ _).drew)
       have hset:(D.set i (d.1,min d.2 s.day))[i]?=some (d.1,min d.2 s.day):=by rw [List.getElem?_set_self (by omega)]
       obtain ⟨z0,z1⟩:=folCells_get (D.set i (d.1,min d.2 s.day)) i (d.1,min d.2 s.day) hset
       replace z0:=(HST2.out.cellAt (i*2) (by omega)).trans z0
       replace z1:=(HST2.out.cellAt (i*2+1) (by omega)).trans z1
       (try simp only [Nat.zero_add] at z0 z1)
       obtain ⟨W6,hW6⟩:∃ W6,(w5.setCell ⟨g,i*2+1,none⟩ (.int .i64 (min d.2 s.day))).drew=W6:=⟨_,rfl⟩
       rw [hW6] at hB6 HST2 z0 z1 ⊢
       have hg6:g<W6.heap.size:=by rw [← hW6];simp;omega
       clear hW6 hset q0 q1 fz kS zS kV zV HST
       go_wp2_with fail
       (refine rg_ ?_;(repeat (go_big_quiet_step (fail)));refine qn_ fun w1 hb1 hc1 hf1=>?_)
       go_wp2_with fail
       go_ret2
       rw [HNS.out]
       have hB1:=Below.then_ hB6 hb1
       exact ⟨_,_,rfl,hB1,own_dn (own_ext HST2.out hb1) (by omega)⟩
      ·have hzd:(s.per == 0)=false:=by simpa using hze
       have HNF:Hid (refN l T kn D s=(D,false)):=by
        show _=_
        rw [HN.out,refNQ,if_neg HMI.out,if_neg hze]
       clear hze
       go_wp2_with fail
       go_ret2
       rw [HNF.out]
       exact ⟨_,_,rfl,HB5,own_dn HOW5.out (by omega)⟩
end Go.Proofs.YtoiompoapikkbaaGreat
