/- Layer 2 of the texts that LoanPlaces takes: Pbjq. -/
import Derived.Test.YtoiompoapikkbaaGreatPbgq
import Derived.Test.YtoiompoapikkbaaGreatPbiq
set_option linter.unusedVariables false
set_option linter.unusedSimpArgs false
set_option maxHeartbeats 16000000
namespace Go.Proofs.YtoiompoapikkbaaGreat
open Go.RowKit Go.Maps
theorem infoRg:(Tryz.prog.info? 34).map (fun i=>(i.zero,i.size,i.bytes))=some (some (.agg #[.int .i64 0,.int .i64 0]),2,16):=by kernel_rfl
theorem r_last_v (l:Led) (v:Vw) (pap leaf day k:Int) (w:World) (hn:v.x.rn≤1000000) (hd:LedIn w w.heap.size v.x l) (h:lastI (lastK v.kn pap leaf day l.rc l.rc.length)=k) :
 Calls Tryz.prog 173 #[vwV v,.agg #[.int .i64 pap,.int .i64 leaf],.int .i64 day] w fun e w'=>e=.returned (.int .i64 k)∧Below w.heap.size w w':=h ▸ r_last l v pap leaf day w hn hd
def refNQ (D:List (Int × Int)) (s:Sgt) (x:Rcp):Option Nat→List (Int × Int) × Bool
 | none=>(D,decide (s.per=x.bor))
 | some k=>if s.per=x.bor then (D.set k (max (D.getD k (0,0)).1 (s.day+1),(D.getD k (0,0)).2),decide (max (D.getD k (0,0)).1 (s.day+1)≤(D.getD k (0,0)).2))
   else if s.per=0 then (D.set k ((D.getD k (0,0)).1,min (D.getD k (0,0)).2 s.day),decide ((D.getD k (0,0)).1≤min (D.getD k (0,0)).2 s.day))
   else (D,false)
theorem refN_eq {l:Led} {T:List Bool} {kn:Int} {D:List (Int × Int)} {s:Sgt} {p:Nat × Int} {x:Rcp} (hL:lastK kn s.pap s.leaf s.day l.rc l.rc.length=some p) (hx:l.rc[p.1]?=some x):refN l T kn D s=refNQ D s x (rtIx T l.rt x.src s.leaf):=by
 rw [refN,hL]
 dsimp only
 simp only [hx]
 cases rtIx T l.rt x.src s.leaf <;> rfl
def RetNr (r:List (Int × Int) × Bool) (n:Nat) (w:World) (e:Ending) (w':World):Prop:=∃ A c,e=.returned (.tuple #[.slice A n c,.bool r.2])∧Below w.heap.size w w'∧w'.ownsRow w.heap.size 34 2 (.slice A n c) n (folCells r.1)
set_option maxRecDepth 100000 in
theorem r_narrowed (l:Led) (v:Vw) (T:List Bool) (D:List (Int × Int)) (s:Sgt) (A:Option Addr) (n c:Nat) (w:World) (hl:LedOk l) (hTt:v.Tn=v.x.tn) (hn:n=v.x.tn) (hd:LedIn w w.heap.size v.x l) (hT:Sq QB 1 w w.heap.size v.TA v.Tn T) (hD:Sq QF 2 w w.heap.size A n D) (hs:0≤s.day∧s.day≤1000000) :
 Calls Tryz.prog 193 #[vwV v,.slice A n c,.agg #[.int .i64 s.src,.int .i64 s.per,.int .i64 s.pap,.int .i64 s.leaf,.int .i64 s.day,.int .i64 s.kn,.int .i64 s.un]] w (RetNr (refN l T v.kn D s) n w):=by
 obtain ⟨⟨pA,pn,pc,rA,rn,rc,tA,tn,tc,sA,sn,sc⟩,kn,TA,Tn,Tc,DA,Dn,Dc⟩:=v
 obtain rfl:Tn=tn:=hTt
 obtain rfl:Tn=n:=hn.symm
 show Calls _ _ #[.agg #[.slice pA pn pc,.slice rA rn rc,.slice tA Tn tc,.slice sA sn sc,.int .i64 kn,.slice TA Tn Tc,.slice DA Dn Dc],_,_] _ (RetNr (refN l T kn D s) Tn w)
 have HR:Hid (Rcs w w.heap.size rA rn l.rc):=by show Sq _ _ _ _ _ _ _;exact hd.r
 have HT:Hid (Rts w w.heap.size tA Tn l.rt):=by show Sq _ _ _ _ _ _ _;exact hd.t
 have hrn6:rn≤1000000:=by have h:=HR.out.len;have h2:=hl.rn;omega
 have htn6:Tn≤60:=by have h:=HT.out.len;have h2:=hl.tn;omega
 have htn7:Tn≤1000000:=by omega
 have hDl:D.length=Tn:=hD.len
 have hcl:=folCells_len D
 have hw:IntKind.i64.wrap (s.day+1)=s.day+1:=IntWalk.i64_in _ (by omega)
 have HLA:Hid (∀ (W:World) (k:Int),Below w.heap.size w W→lastI (lastK kn s.pap s.leaf s.day l.rc l.rc.length)=k→Calls Tryz.prog 173 #[.agg #[.slice pA pn pc,.slice rA rn rc,.slice tA Tn tc,.slice sA sn sc,.int .i64 kn,.slice TA Tn Tc,.slice DA Dn Dc],.agg #[.int .i64 s.pap,.int .i64 s.leaf],.int .i64 s.day] W fun e w'=>e=.returned (.int .i64 k)∧Below W.heap.size W w'):=by
  show ∀ _,_
  exact fun W k hW h=>r_last_v l ⟨⟨pA,pn,pc,rA,rn,rc,tA,Tn,tc,sA,sn,sc⟩,kn,TA,Tn,Tc,DA,Dn,Dc⟩ s.pap s.leaf s.day k W hrn6 (hd.now hW) h
 have HRO:Hid (∀ (W:World) (a:Nat) (x:Rcp) (k:Int),Below w.heap.size w W→l.rc[a]?=some x→ixI (rtIx T l.rt x.src s.leaf)=k→Calls Tryz.prog 130 #[.agg #[.slice pA pn pc,.slice rA rn rc,.slice tA Tn tc,.slice sA sn sc,.int .i64 kn,.slice TA Tn Tc,.slice DA Dn Dc],.int .i64 a,.int .i64 s.leaf] W fun e w'=>e=.returned (.int .i64 k)∧Below W.heap.size W w'):=by
  show ∀ _,_
  exact fun W a x k hW ha h2=>r_returnOf_v l ⟨⟨pA,pn,pc,rA,rn,rc,tA,Tn,tc,sA,sn,sc⟩,kn,TA,Tn,Tc,DA,Dn,Dc⟩ T a x s.leaf k W hrn6 htn7 rfl (hd.now hW) (hT.now abB hW) ha h2
 have HDD:=hd_ (rd_of_fos hD)
 have HON:=hd_ (folCells_one D)
 have HTL:Hid (l.rt.length=Tn):=by show _=_;exact HT.out.len
 obtain ⟨i0,hi,hz0,hz1,hz2⟩:=info_parts infoRg
 clear hd hT hD hl
 obtain ⟨N,hN⟩:∃ N,refN l T kn D s=N:=⟨_,rfl⟩
 go_enter Tryz.func193,Tryz.ntmps193
 have hem:=own_emptyB2 ((w.alloc (.cells #[.slice pA pn pc,.slice rA rn rc,.slice tA Tn tc,.slice sA sn sc,.int .i64 kn,.slice TA Tn Tc,.slice DA Dn Dc] 127)).alloc (.cells #[.int .i64 s.src,.int .i64 s.per,.int .i64 s.pap,.int .i64 s.leaf,.int .i64 s.day,.int .i64 s.kn,.int .i64 s.un] 38)) 34 2 (w.heap.size+1+1) (by simp)
 simp only [World.size_alloc] at hem
 have HEM:=hd_ hem
 clear hem
 go_wp2_with (at_builtin;refine wpList_app2 rfl (.tmp 12) (.tmp 13) 125 rfl (base:=w.heap.size+1+1) (B:=w.heap.size) (e:=34) (i:=i0) (size:=2) (bytes:=16) (v:=.slice (some ⟨w.heap.size+1+1,0,none⟩) 0 0) Tryz.underlying125 hi hz0 hz1 hz2 rfl (by decide) rfl rfl (n:=0) (xs:=[]) HEM.out (m:=Tn) (news:=folCells D) (Rd.ext HDD.out (by exact bel_) lr_) HON.out (by unfold maxLen;omega) (by omega) (by simp) ?_;intro v2 w2 hown2 hgrow2 hb2;simp only [Nat.zero_add,List.nil_append] at hown2;have bV:=((((BoxA.new w 127 #[.slice pA pn pc,.slice rA rn rc,.slice tA Tn tc,.slice sA sn sc,.int .i64 kn,.slice TA Tn Tc,.slice DA Dn Dc]).alloc (.cells #[.int .i64 s.src,.int .i64 s.per,.int .i64 s.pap,.int .i64 s.leaf,.int .i64 s.day,.int .i64 s.kn,.int .i64 s.un] 38)).alloc (.cells #[] 34)).kept hgrow2 (by simp [Value.ownBlock];omega));have bS0:BoxA ((w.alloc (.cells #[.slice pA pn pc,.slice rA rn rc,.slice tA Tn tc,.slice sA sn sc,.int .i64 kn,.slice TA Tn Tc,.slice DA Dn Dc] 127)).alloc (.cells #[.int .i64 s.src,.int .i64 s.per,.int .i64 s.pap,.int .i64 s.leaf,.int .i64 s.day,.int .i64 s.kn,.int .i64 s.un] 38)) (w.heap.size+1) 38 #[.int .i64 s.src,.int .i64 s.per,.int .i64 s.pap,.int .i64 s.leaf,.int .i64 s.day,.int .i64 s.kn,.int .i64 s.un]:=(by have h:=BoxA.new (w.alloc (.cells #[.slice pA pn pc,.slice rA rn rc,.slice tA Tn tc,.slice sA sn sc,.int .i64 kn,.slice TA Tn Tc,.slice DA Dn Dc] 127)) 38 #[.int .i64 s.src,.int .i64 s.per,.int .i64 s.pap,.int .i64 s.leaf,.int .i64 s.day,.int .i64 s.kn,.int .i64 s.un];simpa using h);have bS:=((bS0.alloc (.cells #[] 34)).kept hgrow2 (by simp [Value.ownBlock]));have HB2:Below w.heap.size w w2:=(show Below w.heap.size w _ by exact bel_).trans (hb2.mono (by omega));obtain ⟨A2,c2,rfl,hcc⟩:=own_slice hown2;have hs2:=HB2.size;have kV:=bV.cell;have zV:=bV.lt;have kS:=bS.cell;have zS:=bS.lt;have HOWN:=hd_ hown2;have HBV:=hd_ bV;have HBS:=hd_ bS;clear hown2 hgrow2 hb2 bV bS bS0 HEM)
 cases hL:lastK kn s.pap s.leaf s.day l.rc l.rc.length with
 | none =>
   have HLV:Hid (lastI (lastK kn s.pap s.leaf s.day l.rc l.rc.length)=-1):=by show _=_;rw [hL];rfl
   have HN:Hid (refN l T kn D s=(D,decide (s.per=0))):=by show _=_;rw [refN,hL]
   clear hL hN
   refine (HLA.out _ (-1) HB2 HLV.out).mono ?_
   rintro e w3 ⟨rfl,hb3⟩
   have bS3:=HBS.out.ext hb3
   have kS3:=bS3.cell
   have zS3:=bS3.lt
   have HB3:=bt_ HB2 hb3
   have HOW:=hd_ (own_ext HOWN.out hb3)
   clear kS zS kV zV hb3 bS3
   go_wp2_with fail
   (refine rg_ ?_;(repeat (go_big_quiet_step (fail)));refine qn_ fun w1 hb1 hc1 hf1=>?_)
   go_wp2_with fail
   go_ret2
   rw [HN.out]
   exact ⟨_,_,rfl,bt_ HB3 hb1,own_dn (own_ext HOW.out hb1) (by omega)⟩
 | some p =>
   obtain ⟨a,dd⟩:=p
   obtain ⟨-,x,hx,-⟩:=lastK_at hL
   have HLV:Hid (lastI (lastK kn s.pap s.leaf s.day l.rc l.rc.length)=(a:Int)):=by show _=_;rw [hL];rfl
   have hia:a<rn:=by rw [← HR.out.len];exact (List.getElem?_eq_some_iff.1 hx).1
   obtain ⟨bx,ox,x',rfl,hbx,hxx,A1,n1,c1,⟨-,g1,-,-,-,-,-⟩,-,-,-⟩:=HR.out.at_ hia
   obtain rfl:x=x':=Option.some.inj (hx.symm.trans hxx)
   have hxn:decide ((a:Int)<0)=false:=by simp
   obtain ⟨q,hq⟩:∃ q,rtIx T l.rt x.src s.leaf=q:=⟨_,rfl⟩
   have hNQ:refN l T kn D s=refNQ D s x q:=by rw [← hq];exact refN_eq hL hx
   have HX:=hd_ hx
   refine (HLA.out _ a HB2 HLV.out).mono ?_
   rintro e w3 ⟨rfl,hb3⟩
   have bV3:=HBV.out.ext hb3
   have bS3:=HBS.out.ext hb3
   have HB3:=bt_ HB2 hb3
   have HOW:=hd_ (own_ext HOWN.out hb3)
   have kV3:=bV3.cell
   have zV3:=bV3.lt
   have kS3:=bS3.cell
   have zS3:=bS3.lt
   have HBV3:=hd_ bV3
   have HBS3:=hd_ bS3
   clear kS zS kV zV hb3 bS3 bV3 hL hN hx hxx
   go_wp2_with fail
   have HKI:Hid (ixI (rtIx T l.rt x.src s.leaf)=ixI q):=by show _=_;rw [hq]
   refine (HRO.out _ a x (ixI q) HB3 HX.out HKI.out).mono ?_
   rintro e w4 ⟨rfl,hb4⟩
   have HB4:=bt_ HB3 hb4
   have bV4:=HBV3.out.ext hb4
   have bS4:=HBS3.out.ext hb4
   have kV:=bV4.cell
   have zV:=bV4.lt
   have kS:=bS4.cell
   have zS:=bS4.lt
   have HBV4:=hd_ bV4
   have HBS4:=hd_ bS4
   have HOW4:=hd_ (own_ext HOW.out hb4)
   have d1:=(HB4.cell (p:=⟨bx,ox+a*7+1,none⟩) hbx).trans g1
   have hs4:=HB4.size
   have hbx4:bx<w4.heap.size:=by omega
   clear kV3 zV3 kS3 zS3 hb4 bV4 bS4 g1
   go_wp2_with fail
   (refine rg_ ?_;(repeat (go_big_quiet_step (fail)));refine qn_ fun w1 hb1 hc1 hf1=>?_)
   obtain ⟨w5,rfl⟩:∃ w5,w5=w1:=⟨_,rfl⟩
   have HB5:=bt_ HB4 hb1
   have HOW5:=hd_ (own_ext HOW4.out hb1)
   have bV5:=HBV4.out.ext hb1
   have bS5:=HBS4.out.ext hb1
   have hs5:=HB5.size
   clear kV zV kS zS d1 hbx4 hb1 hc1 hf1
   have kV:=bV5.cell
   have zV:=bV5.lt
   have kS:=bS5.cell
   have zS:=bS5.lt
   have HBS5:=hd_ bS5
   clear bV5 bS5
   cases q with
   | none =>
     have HN:Hid (refN l T kn D s=(D,decide (s.per=x.bor))):=by show _=_;exact hNQ
     have hneg:decide ((-1:Int)<0)=true:=by decide
     clear hNQ hq
     simp only [ixI]
     go_wp2_with fail
     go_ret2
     rw [HN.out]
     exact ⟨_,_,rfl,HB5,own_dn HOW5.out (by omega)⟩
   | some i =>
     obtain ⟨-,t,ht,-,-⟩:=rt_some hq
     have hit:i<Tn:=by rw [← HTL.out];exact (List.getElem?_eq_some_iff.1 ht).1
     have hin:decide ((i:Int)<0)=false:=by simp
     have HN:=hd_ hNQ
     clear hNQ hq ht
     simp only [ixI]
     by_cases hmi:s.per=x.bor
     ·have hmd:(s.per == x.bor)=true:=by simpa using hmi
      have HMI:=hd_ hmi
      clear hmi
      obtain ⟨g,cap,hv,hg0,hg1,hg2,hg3⟩:=own_shape2 HOW5.out (by omega)
      simp only [Value.slice.injEq,true_and] at hv
      obtain ⟨rfl,rfl⟩:=hv
      have hown5:=HOW5.out
      obtain ⟨d,hdi⟩:∃ d,D[i]?=some d:=⟨_,List.getElem?_eq_getElem (by omega)⟩
      have hgd:D.getD i (0,0)=d:=by rw [List.getD_eq_getElem?_getD,hdi];rfl
      obtain ⟨q0,q1⟩:=folCells_get D i d hdi
      have fz:=hown5.frozenAt
      replace q0:=(hown5.cellAt (i*2) (by omega)).trans q0
      replace q1:=(hown5.cellAt (i*2+1) (by omega)).trans q1
      (try simp only [Nat.zero_add] at q0 q1)
      have HST:=hd_ (hown5.stored (i*2) (.int .i64 (max d.1 (s.day+1)))).1
      rw [folCells_setLo (max d.1 (s.day+1)) hdi] at HST
      have HNS:Hid (refN l T kn D s=(D.set i (max d.1 (s.day+1),d.2),decide ((max d.1 (s.day+1),d.2).1≤(max d.1 (s.day+1),d.2).2))):=by
       show _=_
       rw [HN.out,refNQ]
       simp only [hgd]
       rw [if_pos HMI.out]
      clear hgd hdi hown5
      go_wp2_with fail
      have bS5:=HBS5.out
      have cS5:w5.drew.cell? ⟨w.heap.size+1,4,none⟩=some (.int .i64 s.day):=(bS5.cell 4).trans rfl
      have gn:w.heap.size+1≠g:=by omega
      (refine wp_region_held_lit (S:=(fun V=>V.cell? ⟨w.heap.size+1,4,none⟩=some (.int .i64 s.day))) 14 (by kernel_rfl) rfl cS5 (fun hS=>?_);simp only [List.reduceReplicate,Array.replicate_succ,Array.replicate_zero])
      (refine tk_ (i:=0) (v:=?_) rfl ?_ hS ?_;rotate_left;focus (intro w2 hw2;go_split_ands;go_simp;first | done | with_reducible rfl);(try simp only [Act.put,pu1,pu2,pu3]))
      (refine tk_ (i:=1) (v:=?_) rfl ?_ hS ?_;rotate_left;focus (intro w2 hw2;go_split_ands;go_simp;first | done | with_reducible rfl);(try simp only [Act.put,pu1,pu2,pu3]))
      (refine tk_ (i:=2) (v:=?_) rfl ?_ hS ?_;rotate_left;focus (intro w2 hw2;go_split_ands;go_simp;first | done | with_reducible rfl);(try simp only [Act.put,pu1,pu2,pu3]))
      (refine tk_ (i:=3) (v:=?_) rfl ?_ hS ?_;rotate_left;focus (intro w2 hw2;go_split_ands;go_simp;first | done | with_reducible rfl);(try simp only [Act.put,pu1,pu2,pu3]))
      (refine tk_ (i:=4) (v:=?_) rfl ?_ hS ?_;rotate_left;focus (intro w2 hw2;go_split_ands;go_simp;first | done | with_reducible rfl);(try simp only [Act.put,pu1,pu2,pu3]))
      (refine tk_ (i:=5) (v:=?_) rfl ?_ hS ?_;rotate_left;focus (intro w2 hw2;go_split_ands;go_simp;first | done | with_reducible rfl);(try simp only [Act.put,pu1,pu2,pu3]))
      (refine tk_ (i:=7) (v:=?_) rfl ?_ hS ?_;rotate_left;focus (intro w2 hw2;go_split_ands;go_simp;first | done | with_reducible rfl);(try simp only [Act.put,pu1,pu2,pu3]))
      (refine tk_ (i:=8) (v:=?_) rfl ?_ hS ?_;rotate_left;focus (intro w2 hw2;go_split_ands;go_simp;first | done | with_reducible rfl);(try simp only [Act.put,pu1,pu2,pu3]))
      (refine tk_ (i:=9) (v:=?_) rfl ?_ hS ?_;rotate_left;focus (intro w2 hw2;go_split_ands;go_simp;first | done | with_reducible rfl);(try simp only [Act.put,pu1,pu2,pu3]))
      refine rd_ [6] ?_
      refine ah1 rfl fun K hK=>?_
      go_simp
      refine hK.out _ _ cS5 (fun hS=>?_)
      clear hK K
      (try simp only [Act.put,pu1,pu2,pu3])
      (refine tk_ (i:=10) (v:=?_) rfl ?_ hS ?_;rotate_left;focus (intro w2 hw2;go_split_ands;go_simp;first | done | with_reducible rfl);(try simp only [Act.put,pu1,pu2,pu3]))
      (refine tk_ (i:=11) (v:=?_) rfl ?_ hS ?_;rotate_left;focus (intro w2 hw2;go_split_ands;go_simp;first | done | with_reducible rfl);(try simp only [Act.put,pu1,pu2,pu3]))
      (refine tk_ (i:=12) (v:=?_) rfl ?_ hS ?_;rotate_left;focus (intro w2 hw2;go_split_ands;go_simp;first | done | with_reducible rfl);(try simp only [Act.put,pu1,pu2,pu3]))
      refine rd_ [13] ?_
      refine ah1 rfl fun K hK=>?_
      go_simp
      refine hK.out _ _ (((bS5.drewB.other gn _).cell 4).trans rfl) (fun hS=>?_)
      clear hK K
      (try simp only [Act.put,pu1,pu2,pu3])
      refine wpAnyH_done (by kernel_rfl) ?_ _
      have hB6:Below w.heap.size w (w5.setCell ⟨g,i*2,none⟩ (.int .i64 (max d.1 (s.day+1)))).drew:=((HB5.setCell (show w.heap.size≤g by omega) _).drew)
      have HST2:Hid ((w5.setCell ⟨g,i*2,none⟩ (.int .i64 (max d.1 (s.day+1)))).drew.ownsRow (w.heap.size+1+1) 34 2 (.slice (some ⟨g,0,none⟩) Tn c2) Tn (folCells (D.set i (max d.1 (s.day+1),d.2)))):=by show World.ownsRow _ _ _ _ _ _ _;exact own_ext HST.out ((Below.refl _ _).drew)
      have hset:(D.set i (max d.1 (s.day+1),d.2))[i]?=some (max d.1 (s.day+1),d.2):=by rw [List.getElem?_set_self (by omega)]
      obtain ⟨z0,z1⟩:=folCells_get (D.set i (max d.1 (s.day+1),d.2)) i (max d.1 (s.day+1),d.2) hset
      replace z0:=(HST2.out.cellAt (i*2) (by omega)).trans z0
      replace z1:=(HST2.out.cellAt (i*2+1) (by omega)).trans z1
      (try simp only [Nat.zero_add] at z0 z1)
      obtain ⟨W6,hW6⟩:∃ W6,(w5.setCell ⟨g,i*2,none⟩ (.int .i64 (max d.1 (s.day+1)))).drew=W6:=⟨_,rfl⟩
      rw [hW6] at hB6 HST2 z0 z1 ⊢
      have hg6:g<W6.heap.size:=by rw [← hW6];simp;omega
      clear hW6 hset q0 q1 fz kS zS kV zV HST
      go_wp2_with fail
      (refine rg_ ?_;(repeat (go_big_quiet_step (fail)));refine qn_ fun w1 hb1 hc1 hf1=>?_)
      go_wp2_with fail
      go_ret2
      rw [HNS.out]
      have hB1:=bt_ hB6 hb1
      exact ⟨_,_,rfl,hB1,own_dn (own_ext HST2.out hb1) (by omega)⟩
     ·have hmd:(s.per == x.bor)=false:=by simpa using hmi
      have HMI:Hid (¬ s.per=x.bor):=by show ¬ _;exact hmi
      clear hmi
      by_cases hze:s.per=0
      ·have hzd:(s.per == 0)=true:=by simpa using hze
       have HZE:=hd_ hze
       clear hze
       obtain ⟨g,cap,hv,hg0,hg1,hg2,hg3⟩:=own_shape2 HOW5.out (by omega)
       simp only [Value.slice.injEq,true_and] at hv
       obtain ⟨rfl,rfl⟩:=hv
       have hown5:=HOW5.out
       obtain ⟨d,hdi⟩:∃ d,D[i]?=some d:=⟨_,List.getElem?_eq_getElem (by omega)⟩
       have hgd:D.getD i (0,0)=d:=by rw [List.getD_eq_getElem?_getD,hdi];rfl
       obtain ⟨q0,q1⟩:=folCells_get D i d hdi
       have fz:=hown5.frozenAt
       replace q0:=(hown5.cellAt (i*2) (by omega)).trans q0
       replace q1:=(hown5.cellAt (i*2+1) (by omega)).trans q1
       (try simp only [Nat.zero_add] at q0 q1)
       have HST:=hd_ (hown5.stored (i*2+1) (.int .i64 (min d.2 s.day))).1
       rw [folCells_setHi (min d.2 s.day) hdi] at HST
       have HNS:Hid (refN l T kn D s=(D.set i (d.1,min d.2 s.day),decide ((d.1,min d.2 s.day).1≤(d.1,min d.2 s.day).2))):=by
        show _=_
        rw [HN.out,refNQ]
        simp only [hgd]
        rw [if_neg HMI.out,if_pos HZE.out]
       clear hgd hdi hown5
       go_wp2_with fail
       have bS5:=HBS5.out
       have cS5:w5.drew.cell? ⟨w.heap.size+1,4,none⟩=some (.int .i64 s.day):=(bS5.cell 4).trans rfl
       have gn:w.heap.size+1≠g:=by omega
       (refine wp_region_held_lit (S:=(fun V=>V.cell? ⟨w.heap.size+1,4,none⟩=some (.int .i64 s.day))) 13 (by kernel_rfl) rfl cS5 (fun hS=>?_);simp only [List.reduceReplicate,Array.replicate_succ,Array.replicate_zero])
       (refine tk_ (i:=0) (v:=?_) rfl ?_ hS ?_;rotate_left;focus (intro w2 hw2;go_split_ands;go_simp;first | done | with_reducible rfl);(try simp only [Act.put,pu1,pu2,pu3]))
       (refine tk_ (i:=1) (v:=?_) rfl ?_ hS ?_;rotate_left;focus (intro w2 hw2;go_split_ands;go_simp;first | done | with_reducible rfl);(try simp only [Act.put,pu1,pu2,pu3]))
       (refine tk_ (i:=2) (v:=?_) rfl ?_ hS ?_;rotate_left;focus (intro w2 hw2;go_split_ands;go_simp;first | done | with_reducible rfl);(try simp only [Act.put,pu1,pu2,pu3]))
       (refine tk_ (i:=3) (v:=?_) rfl ?_ hS ?_;rotate_left;focus (intro w2 hw2;go_split_ands;go_simp;first | done | with_reducible rfl);(try simp only [Act.put,pu1,pu2,pu3]))
       (refine tk_ (i:=4) (v:=?_) rfl ?_ hS ?_;rotate_left;focus (intro w2 hw2;go_split_ands;go_simp;first | done | with_reducible rfl);(try simp only [Act.put,pu1,pu2,pu3]))
       (refine tk_ (i:=5) (v:=?_) rfl ?_ hS ?_;rotate_left;focus (intro w2 hw2;go_split_ands;go_simp;first | done | with_reducible rfl);(try simp only [Act.put,pu1,pu2,pu3]))
       (refine tk_ (i:=7) (v:=?_) rfl ?_ hS ?_;rotate_left;focus (intro w2 hw2;go_split_ands;go_simp;first | done | with_reducible rfl);(try simp only [Act.put,pu1,pu2,pu3]))
       (refine tk_ (i:=8) (v:=?_) rfl ?_ hS ?_;rotate_left;focus (intro w2 hw2;go_split_ands;go_simp;first | done | with_reducible rfl);(try simp only [Act.put,pu1,pu2,pu3]))
       refine rd_ [6] ?_
       refine ah1 rfl fun K hK=>?_
       go_simp
       refine hK.out _ _ cS5 (fun hS=>?_)
       clear hK K
       (try simp only [Act.put,pu1,pu2,pu3])
       (refine tk_ (i:=9) (v:=?_) rfl ?_ hS ?_;rotate_left;focus (intro w2 hw2;go_split_ands;go_simp;first | done | with_reducible rfl);(try simp only [Act.put,pu1,pu2,pu3]))
       (refine tk_ (i:=10) (v:=?_) rfl ?_ hS ?_;rotate_left;focus (intro w2 hw2;go_split_ands;go_simp;first | done | with_reducible rfl);(try simp only [Act.put,pu1,pu2,pu3]))
       (refine tk_ (i:=11) (v:=?_) rfl ?_ hS ?_;rotate_left;focus (intro w2 hw2;go_split_ands;go_simp;first | done | with_reducible rfl);(try simp only [Act.put,pu1,pu2,pu3]))
       refine rd_ [12] ?_
       refine ah1 rfl fun K hK=>?_
       go_simp
       refine hK.out _ _ (((bS5.drewB.other gn _).cell 4).trans rfl) (fun hS=>?_)
       clear hK K
       (try simp only [Act.put,pu1,pu2,pu3])
       refine wpAnyH_done (by kernel_rfl) ?_ _
       have hB6:Below w.heap.size w (w5.setCell ⟨g,i*2+1,none⟩ (.int .i64 (min d.2 s.day))).drew:=((HB5.setCell (show w.heap.size≤g by omega) _).drew)
       have HST2:Hid ((w5.setCell ⟨g,i*2+1,none⟩ (.int .i64 (min d.2 s.day))).drew.ownsRow (w.heap.size+1+1) 34 2 (.slice (some ⟨g,0,none⟩) Tn c2) Tn (folCells (D.set i (d.1,min d.2 s.day)))):=by show World.ownsRow _ _ _ _ _ _ _;exact own_ext HST.out ((Below.refl _ _).drew)
       have hset:(D.set i (d.1,min d.2 s.day))[i]?=some (d.1,min d.2 s.day):=by rw [List.getElem?_set_self (by omega)]
       obtain ⟨z0,z1⟩:=folCells_get (D.set i (d.1,min d.2 s.day)) i (d.1,min d.2 s.day) hset
       replace z0:=(HST2.out.cellAt (i*2) (by omega)).trans z0
       replace z1:=(HST2.out.cellAt (i*2+1) (by omega)).trans z1
       (try simp only [Nat.zero_add] at z0 z1)
       obtain ⟨W6,hW6⟩:∃ W6,(w5.setCell ⟨g,i*2+1,none⟩ (.int .i64 (min d.2 s.day))).drew=W6:=⟨_,rfl⟩
       rw [hW6] at hB6 HST2 z0 z1 ⊢
       have hg6:g<W6.heap.size:=by rw [← hW6];simp;omega
       clear hW6 hset q0 q1 fz kS zS kV zV HST
       go_wp2_with fail
       (refine rg_ ?_;(repeat (go_big_quiet_step (fail)));refine qn_ fun w1 hb1 hc1 hf1=>?_)
       go_wp2_with fail
       go_ret2
       rw [HNS.out]
       have hB1:=bt_ hB6 hb1
       exact ⟨_,_,rfl,hB1,own_dn (own_ext HST2.out hb1) (by omega)⟩
      ·have hzd:(s.per == 0)=false:=by simpa using hze
       have HNF:Hid (refN l T kn D s=(D,false)):=by
        show _=_
        rw [HN.out,refNQ,if_neg HMI.out,if_neg hze]
       clear hze
       go_wp2_with fail
       go_ret2
       rw [HNF.out]
       exact ⟨_,_,rfl,HB5,own_dn HOW5.out (by omega)⟩
def whoP (l:Led) (kn day pap:Int) (days:List Int) (i:Nat):Int:=if (stayP (opnL l kn).M (cntR l kn) pap ((i:Int)+1) day).2<0∨day<days.getD (stayP (opnL l kn).M (cntR l kn) pap ((i:Int)+1) day).2.toNat 0 then (stayP (opnL l kn).M (cntR l kn) pap ((i:Int)+1) day).1 else 0
def placedX (l:Led) (days:List Int) (pap day kn:Int):List Int × Int:=if preF l day kn pap 1=0 then (if trueE l kn days=0 then ((List.range (lvOf l.pp pap).toNat).map (whoP l kn day pap days),0) else ([],trueE l kn days)) else ([],preF l day kn pap 1)
def whPL (l:Led) (kn day pap:Int) (days:List Int) (n k:Nat):List Int:=(List.range k).map (whoP l kn day pap days) ++ List.replicate (n - k) 0
theorem whPL_zero (l:Led) (kn day pap:Int) (days:List Int) (n:Nat):whPL l kn day pap days n 0=List.replicate n 0:=by simp [whPL]
theorem whPL_len (l:Led) (kn day pap:Int) (days:List Int) {n k:Nat} (h:k≤n):(whPL l kn day pap days n k).length=n:=by simp [whPL];omega
theorem whPL_all (l:Led) (kn day pap:Int) (days:List Int) (n:Nat):whPL l kn day pap days n n=(List.range n).map (whoP l kn day pap days):=by simp [whPL]
theorem whPL_succ (l:Led) (kn day pap:Int) (days:List Int) {n k:Nat} (h:k<n):whPL l kn day pap days n (k+1)=(whPL l kn day pap days n k).set k (whoP l kn day pap days k):=by
 unfold whPL
 obtain ⟨d,hd⟩:∃ d,n - k=d+1:=⟨n - k - 1,by omega⟩
 rw [hd,show n - (k+1)=d from by omega,List.range_succ,List.map_append,List.replicate_succ,List.set_append_right _ _ (by simp)]
 simp
theorem whPL_same (l:Led) (kn day pap:Int) (days:List Int) {n k:Nat} (h:k<n) (h0:whoP l kn day pap days k=0):whPL l kn day pap days n (k+1)=whPL l kn day pap days n k:=by
 rw [whPL_succ l kn day pap days h,h0]
 apply List.ext_getElem?
 intro j
 rw [List.getElem?_set]
 by_cases hj:k=j
 ·subst hj
  rw [if_pos rfl,if_pos (by rw [whPL_len l kn day pap days (Nat.le_of_lt h)];exact h)]
  unfold whPL
  rw [List.getElem?_append_right (by simp)]
  obtain ⟨d,hd⟩:∃ d,n - k=d+1:=⟨n - k - 1,by omega⟩
  rw [hd,List.length_map,List.length_range,Nat.sub_self,List.replicate_succ]
  rfl
 ·rw [if_neg hj]
theorem made_int (n:Nat):madeCells #[.int .i64 0] n=(intL (List.replicate n 0)).toArray:=by
 apply Array.ext'
 rw [toList_madeCells_one]
 simp [intL]
theorem make_int (n:Nat) (hn:n≤1000000) (w:World):(Instr.makeSlice 30 (.int .i64 (n:Int)) (.int .i64 (n:Int))).run Tryz.prog w=.ok (.slice (some ⟨w.heap.size,0,none⟩) n n) (w.alloc (.cells (intL (List.replicate n 0)).toArray 3)):=by
 obtain ⟨i0,hi,hz0,hz1,hz2⟩:=info_parts infoI2
 have h:=run_make (w:=w) 30 3 i0 _ Tryz.underlying30 hi hz0 .i64 .i64 n n (by omega) (Int.le_refl _) (by rw [hz2];omega) (by omega)
 rw [h,hz1]
 simp only [Int.toNat_natCast,Nat.mul_one,Value.cells]
 rw [made_int]
theorem BoxA.setI {W:World} {B:Nat} {t:TypeId} {xs:List Int} (h:BoxA W B t (intL xs).toArray) (i:Nat) (v:Int):BoxA (W.setCell ⟨B,i,none⟩ (.int .i64 v)) B t (intL (xs.set i v)).toArray:=by
 have:=h.set i (.int .i64 v)
 simpa [intL,List.map_set] using this
theorem true_len {l:Led} {kn:Int} {days:List Int} (h:trueE l kn days=0):days.length=l.rt.length:=by
 unfold trueE at h
 split at h
 ·rename_i h1;exact h1.1
 ·cases h
theorem p_stayA (M:List ((Int × Int) × Nat)) (R:List Rcp) (P:List (Int × Int)) (a:Acc) (pap leaf day:Int) (st:Int × Int) (w:World) (h:AccR w a M R P) (hwl:(Lit.int .i64 leaf).wf=true) (hst:stayP M R pap leaf day=st) :
 Calls Tryz.prog 134 #[accV a,.agg #[.int .i64 pap,.int .i64 leaf],.int .i64 day] w fun e w'=>e=.returned (.agg #[.int .i64 st.1,.int .i64 st.2])∧Below w.heap.size w w':=by
 subst hst
 exact p_stay M R a pap leaf day w h.nR (fun r hr=>⟨(h.okR r hr).1,(h.okR r hr).2.1⟩) hwl h.m h.r
set_option maxRecDepth 100000 in
theorem p_PlacedX (l:Led) (x:Lsl) (days:List Int) (D:Option Addr) (m c0:Nat) (pap day kn:Int) (w:World) (hf:x.fit) (hd:LedIn w w.heap.size x l) (hm:m≤9223372036854775807) (hdy:Is w w.heap.size D m days) :
 Calls Tryz.prog 47 #[.agg #[.slice x.pA x.pn x.pc,.slice x.rA x.rn x.rc,.slice x.tA x.tn x.tc,.slice x.sA x.sn x.sc],.slice D m c0,.int .i64 pap,.int .i64 day,.int .i64 kn] w (RetLE (placedX l days pap day kn) w):=by
 obtain ⟨pA,pn,pc,rA,rn,rc,tA,tn,tc,sA,sn,sc⟩:=x
 have HD:=hd_ hd
 have hml:maxLen≤9223372036854775807:=by decide
 have hpn:pn≤9223372036854775807:=by have:=hf.p;dsimp only at this;omega
 have hrn:rn≤9223372036854775807:=by have:=hf.r;dsimp only at this;omega
 have htn:tn≤9223372036854775807:=by have:=hf.t;dsimp only at this;omega
 have hsn:sn≤9223372036854775807:=by have:=hf.s;dsimp only at this;omega
 clear hd hf hml
 have HDY:=hd_ hdy
 clear hdy
 obtain ⟨vp,hv⟩:∃ vp,preF l day kn pap 1=vp:=⟨_,rfl⟩
 have HV:Hid (orL [errI (ledB l) 24,errI (daysOk [day,kn]) 6,errI (folB l.pp pap 1) 26]=vp):=by show _=_;exact hv
 obtain ⟨W0,hW0⟩:∃ W0,W0=(w.alloc (.cells #[.slice pA pn pc,.slice rA rn rc,.slice tA tn tc,.slice sA sn sc] 27)):=⟨_,rfl⟩
 have HC0:Below w.heap.size w W0:=by rw [hW0];exact bel_
 have bL:BoxA W0 w.heap.size 27 #[.slice pA pn pc,.slice rA rn rc,.slice tA tn tc,.slice sA sn sc]:=by rw [hW0];exact BoxA.new _ _ _
 have HW0:=hd_ hW0
 have HVP:=hd_ hv
 clear hW0 hv
 go_enter Tryz.func47,Tryz.ntmps47
 go_wp2
 refine wp_named2 fun f1 V1 hf1 hV1=>?_
 obtain rfl:V1=W0:=by rw [← hV1,HW0.out]
 clear hV1
 refine wp_cut2 (fun a' W'=>IsFr2 (fun u=>{ tmps:=#[.agg #[.slice pA pn pc,.slice rA rn rc,.slice tA tn tc,.slice sA sn sc],.slice D m c0,.int .i64 pap,.int .i64 day,.int .i64 kn,.pointer (some ⟨w.heap.size,0,none⟩),u 6,u 7,u 8,u 9,.slice none 0 0,.int .i64 0,.int .i64 vp,u 13,u 14,u 15,u 16,u 17,u 18,u 19,u 20,u 21,u 22,u 23,u 24,u 25,u 26,u 27,u 28,u 29,u 30,u 31,u 32,u 33,u 34,u 35,u 36,u 37,u 38,u 39,u 40,u 41,u 42,u 43,u 44,u 45,u 46,u 47,u 48,u 49,u 50,u 51,u 52,u 53,u 54,u 55,u 56,u 57,u 58,u 59,u 60,u 61,u 62,u 63,u 64,u 65,u 66,u 67,u 68,u 69,u 70,u 71,u 72,u 73,u 74],defers:=[] }) a'∧Below w.heap.size w W'∧(∀ o,W'.cell? ⟨w.heap.size,o,none⟩=(#[.slice pA pn pc,.slice rA rn rc,.slice tA tn tc,.slice sA sn sc]:Array Value)[o]?)∧w.heap.size<W'.heap.size) ?reg ?rest
 case reg =>
  subst hf1
  have HC:Below w.heap.size w V1.drew:=HC0.drew
  have zL:w.heap.size<V1.heap.size:=bL.lt
  (refine wp_region_sink_lit (S:=S1 w.heap.size w.heap.size #[.slice pA pn pc,.slice rA rn rc,.slice tA tn tc,.slice sA sn sc] #[.slice pA pn pc,.slice rA rn rc,.slice tA tn tc,.slice sA sn sc]) 11 (by kernel_rfl) rfl rfl (by kernel_rfl) (by kernel_rfl) ⟨bL.cell,bL.cell,zL,zL⟩ (fun hS=>?_);simp only [List.take_succ_cons,List.take_zero,List.reduceReplicate,Array.replicate_succ,Array.replicate_zero])
  (refine tk_ (i:=0) (v:=?_) rfl ?_ hS ?_;rotate_left;focus (intro w2 hw2;(try unfold S1 at hw2);go_split_ands;go_simp;first | done | with_reducible rfl);(try simp only [Act.put,pu1,pu2,pu3]))
  (refine tk_ (i:=2) (v:=?_) rfl ?_ hS ?_;rotate_left;focus (intro w2 hw2;(try unfold S1 at hw2);go_split_ands;go_simp;first | done | with_reducible rfl);(try simp only [Act.put,pu1,pu2,pu3]))
  (refine tk_ (i:=3) (v:=?_) rfl ?_ hS ?_;rotate_left;focus (intro w2 hw2;(try unfold S1 at hw2);go_split_ands;go_simp;first | done | with_reducible rfl);(try simp only [Act.put,pu1,pu2,pu3]))
  (refine tk_ (i:=6) (v:=?_) rfl ?_ hS ?_;rotate_left;focus (intro w2 hw2;(try unfold S1 at hw2);go_split_ands;go_simp;first | done | with_reducible rfl);(try simp only [Act.put,pu1,pu2,pu3]))
  (refine tk_ (i:=7) (v:=?_) rfl ?_ hS ?_;rotate_left;focus (intro w2 hw2;(try unfold S1 at hw2);go_split_ands;go_simp;first | done | with_reducible rfl);(try simp only [Act.put,pu1,pu2,pu3]))
  refine rd_ [1,4] ?_
  refine AllReadyH.cons rfl (fun K hK=>?_) (AllReadyH.cons rfl (fun K hK=>?_) AllReadyH.nil)
  ·(go_simp;go_at_call 18;refine (p_Check l ⟨pA,pn,pc,rA,rn,rc,tA,tn,tc,sA,sn,sc⟩ _ hpn hrn htn hsn (HD.out.now HC)).mono ?_;rintro e v1 ⟨rfl,hb⟩;go_simp)
   have HC:=bt_ HC hb
   refine hK.out _ _ (S1.ext hb hS) (fun hS=>?_)
   clear hK K hb
   (try simp only [Act.put,pu1,pu2,pu3])
   refine rd_ [4] ?_
   refine ah1 rfl fun K hK=>?_
   go_simp
   have hAr:=BoxA.new (v1) 3 #[.int .i64 day,.int .i64 kn]
   have HC:=HC.alloc HC.size (.cells #[.int .i64 day,.int .i64 kn] 3)
   refine hK.out _ _ (S1.ext ((Below.refl _ _).alloc lr_ _) hS) (fun hS=>?_)
   clear hK K
   (try simp only [Act.put,pu1,pu2,pu3])
   refine rd_ [5] ?_
   refine ah1 rfl fun K hK=>?_
   (go_simp;go_at_call 100;refine (p_checkDays [day,kn] _ 2 2 _ (by decide) (is_box hAr rfl)).mono ?_;rintro e v3 ⟨rfl,hb⟩;go_simp)
   have HC:=bt_ HC hb
   have hAr:=hAr.ext hb
   refine hK.out _ _ (S1.ext hb hS) (fun hS=>?_)
   clear hK K hb
   (try simp only [Act.put,pu1,pu2,pu3])
   refine rd_ [8] ?_
   refine ah1 rfl fun K hK=>?_
   (go_simp;go_at_call 124;refine (p_checkPaper2 l.pp ⟨pA,pn,pc,rA,rn,rc,tA,tn,tc,sA,sn,sc⟩ pap _ hpn (HD.out.now HC).p).mono ?_;rintro e v4 ⟨rfl,hb⟩;go_simp)
   have HC:=bt_ HC hb
   have hAr:=hAr.ext hb
   refine hK.out _ _ (S1.ext hb hS) (fun hS=>?_)
   clear hK K hb
   (try simp only [Act.put,pu1,pu2,pu3])
   refine rd_ [9] ?_
   refine ah1 rfl fun K hK=>?_
   go_simp
   have HCX:=HC.alloc HC.size (.cells #[.int .i64 (errI (ledB l) 24),.int .i64 (errI (daysOk [day,kn]) 6),.int .i64 (errI (folB l.pp pap 1) 26)] 41)
   refine hK.out _ _ (S1.ext ((Below.refl _ _).alloc lr_ _) hS) (fun hS=>?_)
   clear hK K
   (try simp only [Act.put,pu1,pu2,pu3])
   refine rd_ [10] ?_
   refine ah1 rfl fun K hK=>?_
   (go_simp;go_at_call 99;refine (p_first [errI (ledB l) 24,errI (daysOk [day,kn]) 6,errI (folB l.pp pap 1) 26] vp _ 3 3 _ (by decide) (Rd.new _ #[.int .i64 (errI (ledB l) 24),.int .i64 (errI (daysOk [day,kn]) 6),.int .i64 (errI (folB l.pp pap 1) 26)] _ 1 3 _ (by simp) rfl) HV.out).mono ?_;rintro e w9 ⟨rfl,rfl⟩;go_simp)
   refine hK.out _ _ hS (fun hS=>?_)
   clear hK K
   (try simp only [Act.put,pu1,pu2,pu3])
   refine wpAnyH_done (by kernel_rfl) ?_ _
   simp only [sinkQ]
   go_simp
   refine ⟨IsFr2.of rfl,HCX,fun o=>?_,hS.2.2.1⟩
   have h:=hS.1 o
   simpa using h
  ·go_simp
   have hAr:=BoxA.new (V1.drew) 3 #[.int .i64 day,.int .i64 kn]
   have HC:=HC.alloc HC.size (.cells #[.int .i64 day,.int .i64 kn] 3)
   refine hK.out _ _ (S1.ext ((Below.refl _ _).alloc lr_ _) hS) (fun hS=>?_)
   clear hK K
   (try simp only [Act.put,pu1,pu2,pu3])
   refine rd_ [1] ?_
   refine ah1 rfl fun K hK=>?_
   (go_simp;go_at_call 18;refine (p_Check l ⟨pA,pn,pc,rA,rn,rc,tA,tn,tc,sA,sn,sc⟩ _ hpn hrn htn hsn (HD.out.now HC)).mono ?_;rintro e v6 ⟨rfl,hb⟩;go_simp)
   have HC:=bt_ HC hb
   have hAr:=hAr.ext hb
   refine hK.out _ _ (S1.ext hb hS) (fun hS=>?_)
   clear hK K hb
   (try simp only [Act.put,pu1,pu2,pu3])
   refine rd_ [5] ?_
   refine ah1 rfl fun K hK=>?_
   (go_simp;go_at_call 100;refine (p_checkDays [day,kn] _ 2 2 _ (by decide) (is_box hAr rfl)).mono ?_;rintro e v7 ⟨rfl,hb⟩;go_simp)
   have HC:=bt_ HC hb
   have hAr:=hAr.ext hb
   refine hK.out _ _ (S1.ext hb hS) (fun hS=>?_)
   clear hK K hb
   (try simp only [Act.put,pu1,pu2,pu3])
   refine rd_ [8] ?_
   refine ah1 rfl fun K hK=>?_
   (go_simp;go_at_call 124;refine (p_checkPaper2 l.pp ⟨pA,pn,pc,rA,rn,rc,tA,tn,tc,sA,sn,sc⟩ pap _ hpn (HD.out.now HC).p).mono ?_;rintro e v8 ⟨rfl,hb⟩;go_simp)
   have HC:=bt_ HC hb
   have hAr:=hAr.ext hb
   refine hK.out _ _ (S1.ext hb hS) (fun hS=>?_)
   clear hK K hb
   (try simp only [Act.put,pu1,pu2,pu3])
   refine rd_ [9] ?_
   refine ah1 rfl fun K hK=>?_
   go_simp
   have HCX:=HC.alloc HC.size (.cells #[.int .i64 (errI (ledB l) 24),.int .i64 (errI (daysOk [day,kn]) 6),.int .i64 (errI (folB l.pp pap 1) 26)] 41)
   refine hK.out _ _ (S1.ext ((Below.refl _ _).alloc lr_ _) hS) (fun hS=>?_)
   clear hK K
   (try simp only [Act.put,pu1,pu2,pu3])
   refine rd_ [10] ?_
   refine ah1 rfl fun K hK=>?_
   (go_simp;go_at_call 99;refine (p_first [errI (ledB l) 24,errI (daysOk [day,kn]) 6,errI (folB l.pp pap 1) 26] vp _ 3 3 _ (by decide) (Rd.new _ #[.int .i64 (errI (ledB l) 24),.int .i64 (errI (daysOk [day,kn]) 6),.int .i64 (errI (folB l.pp pap 1) 26)] _ 1 3 _ (by simp) rfl) HV.out).mono ?_;rintro e w9 ⟨rfl,rfl⟩;go_simp)
   refine hK.out _ _ hS (fun hS=>?_)
   clear hK K
   (try simp only [Act.put,pu1,pu2,pu3])
   refine wpAnyH_done (by kernel_rfl) ?_ _
   simp only [sinkQ]
   go_simp
   refine ⟨IsFr2.of rfl,HCX,fun o=>?_,hS.2.2.1⟩
   have h:=hS.1 o
   simpa using h
 case rest =>
  clear hf1 bL HC0
  rintro a' W' ⟨⟨u,rfl⟩,HB2,kL2,zL2⟩
  have hs2:=HB2.size
  by_cases hv0:vp=0
  ·subst hv0
   have HLO:=hd_ (led_ok (preF_zero HVP.out))
   obtain ⟨ve,hve⟩:∃ ve,trueE l kn days=ve:=⟨_,rfl⟩
   by_cases he:ve=0
   ·subst he
    obtain ⟨n,hn,hn30⟩:=lv_range HLO.out pap
    have hres:placedX l days pap day kn=((List.range n).map (whoP l kn day pap days),0):=by rw [placedX,if_pos HVP.out,if_pos hve,hn,Int.toNat_natCast]
    have HRES:=hd_ hres
    have HTE:=hd_ hve
    have HDL:=hd_ (true_len hve)
    have HLN:=hd_ hn
    have hmk:=make_int n (by omega)
    clear hres hve
    go_wp2_with (first | (go_at_call 101;refine (p_openA l ⟨pA,pn,pc,rA,rn,rc,tA,tn,tc,sA,sn,sc⟩ kn _ HLO.out (HD.out.now HB2)).mono ?_;rintro e w5 ⟨RA,Rn,Rc,SA,Sn,Sc,bm,TA,Tn,Tc,PA,Pn,Pc,rfl,hb5,hO⟩;have HB5:Below w.heap.size w w5:=bt_ HB2 hb5;have hs5:=HB5.size;have HO:=hd_ hO;have kL5:∀ o,w5.cell? ⟨w.heap.size,o,none⟩=(#[.slice pA pn pc,.slice rA rn rc,.slice tA tn tc,.slice sA sn sc]:Array Value)[o]?:=(fun o=>(hb5.cell (p:=⟨w.heap.size,o,none⟩) zL2).trans (kL2 o));have zL5:w.heap.size<w5.heap.size:=Nat.lt_of_lt_of_le zL2 hb5.size;clear kL2 hO hb5) | (go_at_call 133;refine (p_checkTrue0 l kn days D m c0 ⟨⟨pA,pn,pc,rA,rn,rc,tA,tn,tc,sA,sn,sc⟩,kn,RA,Rn,Rc,SA,Sn,Sc,bm,TA,Tn,Tc,PA,Pn,Pc⟩ w5 HLO.out HO.out hm (HDY.out.now HB5) HTE.out).mono ?_;rintro e w6 ⟨PA2,Pc2,rfl,hb6,hbx6,hac6⟩;have HB6:Below w.heap.size w w6:=bt_ HB5 hb6;have hs6:=HB6.size;have hs56:=hb6.size;have k6:=hbx6.cell;have z6:=hbx6.lt;have HAC:=hd_ hac6;have HBX:=hd_ hbx6;have kL6:∀ o,w6.cell? ⟨w.heap.size,o,none⟩=(#[.slice pA pn pc,.slice rA rn rc,.slice tA tn tc,.slice sA sn sc]:Array Value)[o]?:=(fun o=>(hb6.cell (p:=⟨w.heap.size,o,none⟩) zL5).trans (kL5 o));have zL6:w.heap.size<w6.heap.size:=Nat.lt_of_lt_of_le zL5 hb6.size;clear kL5 hac6 hb6 hbx6) | (go_at_call 125;refine (p_leaves l.pp ⟨pA,pn,pc,rA,rn,rc,tA,tn,tc,sA,sn,sc⟩ pap _ hpn (HD.out.now HB6).p).mono ?_;rintro e w7 ⟨rfl,hb7⟩;have HB7:Below w.heap.size w w7:=HB6.trans (hb7.mono hs6);have hs67:=hb7.size;have HBX7:=hd_ (HBX.out.ext hb7);have HAC7:=hd_ (HAC.out.now hb7);clear hb7 kL6 zL6 k6 z6))
    have hnl:lvOf l.pp pap=(n:Int):=HLN.out
    have hac7:=HAC7.out
    have hlm:days.length=m:=HDY.out.len
    have hPn:Pn=l.rt.length:=HO.out.pn
    have HLM:=hd_ hlm
    have HPN:=hd_ hPn
    clear hlm hPn
    go_loopw [46] (fun i wr=>∃ k:Nat,k≤n∧i=.int .i64 k∧BoxA wr w7.heap.size 3 (intL (whPL l kn day pap days n k)).toArray∧Below w7.heap.size w7 wr) (fun i _=>n - (intOf i).toNat)
    case atStart =>
     exact ⟨0,by omega,rfl,by rw [whPL_zero];exact BoxA.new w7 _ _,by exact bel_⟩
    case round =>
     obtain ⟨k,hk,rfl,bQ,hB⟩:=hrel
     have hsB:=hB.size
     have bAw:=HBX7.out.ext hB
     have kAw:=bAw.cell
     have zAw:=bAw.lt
     have zQ:=bQ.lt
     have HACw:=hd_ (hac7.now hB)
     by_cases hlt:k<n
     ·have hwf:(Lit.int .i64 ((k:Int)+1)).wf=true:=wf_small (by omega) (by omega)
      have hwr:IntKind.i64.wrap ((k:Int)+1)=(k:Int)+1:=IntWalk.i64_in _ (by omega)
      obtain ⟨⟨sp,sb⟩,hst⟩:∃ st,stayP (opnL l kn).M (cntR l kn) pap ((k:Int)+1) day=st:=⟨_,rfl⟩
      have hback:=stayP_back (M:=(opnL l kn).M) (R:=cntR l kn) (pap:=pap) (leaf:=(k:Int)+1) (day:=day) HACw.out.mP
      rw [hst] at hback
      have HST:=hd_ hst
      have hW:whoP l kn day pap days k=if sb<0∨day<days.getD sb.toNat 0 then sp else 0:=by rw [whoP,hst]
      have hcellk:∃ u,(intL (whPL l kn day pap days n k)).toArray[k]?=some u:=⟨_,Array.getElem?_eq_getElem (by simp [intL];rw [whPL_len l kn day pap days hk];exact hlt)⟩
      obtain ⟨u0,hu0⟩:=hcellk
      clear hst
      rcases hback with hb | ⟨ix,hix,hb⟩
      ·have hb:sb=-1:=hb
       subst hb
       have hw1:whoP l kn day pap days k=sp:=by rw [hW,if_pos (.inl (by decide))]
       have HS:=hd_ (whPL_succ l kn day pap days hlt)
       have HW1:=hd_ hw1
       clear hW hw1
       go_wp2_with (go_at_call 134;refine (p_stayA _ _ _ ⟨⟨pA,pn,pc,rA,rn,rc,tA,tn,tc,sA,sn,sc⟩,kn,RA,Rn,Rc,SA,Sn,Sc,bm,TA,Tn,Tc,PA2,Pn,Pc2⟩ pap ((k:Int)+1) day _ wr HACw.out hwf HST.out).mono ?_;rintro e w8 ⟨rfl,hb8⟩;have hs8:=hb8.size;have bQ8:=bQ.ext hb8;have kQ8:=bQ8.cell;have zQ8:=bQ8.lt;have fQ8:=bQ8.frozen;have HBQ8:=hd_ bQ8;have HB8:=hd_ hb8;have cQ:=(kQ8 k).trans hu0;clear bQ8 hb8)
       go_roundw
       case rel=>exact ⟨k+1,by omega,by go_num,by rw [HS.out,HW1.out];exact (HBQ8.out.setI k sp).alloc _,((hB.trans (HB8.out.mono hsB)).setCell (show w7.heap.size≤(⟨w7.heap.size,k,none⟩:Addr).block from lr_) _).alloc (by simp;omega) _⟩
       case measure=>exact ms_
      ·have hb:sb=(ix:Int):=hb
       subst hb
       have hixm:ix<m:=by have h1:=HLM.out;have h2:=HPN.out;have h3:=HDL.out;have h4:ix<Pn:=hix;omega
       obtain ⟨bd,od,x,hD,hbd,hxd,hcd⟩:=(HDY.out.now (HB7.trans (hB.mono (by omega)))).at_ hixm
       have hD':D=some ⟨bd,od,none⟩:=hD
       subst hD'
       have hgx:days.getD ((ix:Int)).toNat 0=x:=by rw [List.getD_eq_getElem?_getD,Int.toNat_natCast,hxd];rfl
       rw [hgx] at hW
       have hnn:¬ ((ix:Int)<0):=by omega
       by_cases hgt:day<x
       ·have hw1:whoP l kn day pap days k=sp:=by rw [hW,if_pos (.inr hgt)]
        have HS:=hd_ (whPL_succ l kn day pap days hlt)
        have HW1:=hd_ hw1
        clear hW hw1 hgx hxd hD
        go_wp2_with (go_at_call 134;refine (p_stayA _ _ _ ⟨⟨pA,pn,pc,rA,rn,rc,tA,tn,tc,sA,sn,sc⟩,kn,RA,Rn,Rc,SA,Sn,Sc,bm,TA,Tn,Tc,PA2,Pn,Pc2⟩ pap ((k:Int)+1) day _ wr HACw.out hwf HST.out).mono ?_;rintro e w8 ⟨rfl,hb8⟩;have hs8:=hb8.size;have bQ8:=bQ.ext hb8;have kQ8:=bQ8.cell;have zQ8:=bQ8.lt;have fQ8:=bQ8.frozen;have HBQ8:=hd_ bQ8;have HB8:=hd_ hb8;have cQ:=(kQ8 k).trans hu0;have cD:=(HB8.out.cell (p:=⟨bd,od+ix,none⟩) hbd).trans hcd;have zD:=Nat.lt_of_lt_of_le hbd hs8;clear bQ8 hb8)
        go_roundw
        case rel=>exact ⟨k+1,by omega,by go_num,by rw [HS.out,HW1.out];exact (HBQ8.out.setI k sp).alloc _,((hB.trans (HB8.out.mono hsB)).setCell (show w7.heap.size≤(⟨w7.heap.size,k,none⟩:Addr).block from lr_) _).alloc (by simp;omega) _⟩
        case measure=>exact ms_
       ·have hw1:whoP l kn day pap days k=0:=by rw [hW,if_neg (fun h=>h.elim hnn hgt)]
        have HS:=hd_ (whPL_same l kn day pap days hlt hw1)
        have hgf:decide (x>day)=false:=by simp;omega
        have hnn2:decide ((ix:Int)<0)=false:=by simp
        clear hW hw1 hgx hxd hD hu0 hgt hnn
        go_wp2_with (go_at_call 134;refine (p_stayA _ _ _ ⟨⟨pA,pn,pc,rA,rn,rc,tA,tn,tc,sA,sn,sc⟩,kn,RA,Rn,Rc,SA,Sn,Sc,bm,TA,Tn,Tc,PA2,Pn,Pc2⟩ pap ((k:Int)+1) day _ wr HACw.out hwf HST.out).mono ?_;rintro e w8 ⟨rfl,hb8⟩;have hs8:=hb8.size;have bQ8:=bQ.ext hb8;have kQ8:=bQ8.cell;have zQ8:=bQ8.lt;have fQ8:=bQ8.frozen;have HBQ8:=hd_ bQ8;have HB8:=hd_ hb8;have cD:=(HB8.out.cell (p:=⟨bd,od+ix,none⟩) hbd).trans hcd;have zD:=Nat.lt_of_lt_of_le hbd hs8;clear kQ8 fQ8 zQ8;clear bQ8 hb8)
        go_roundw
        case rel=>exact ⟨k+1,by omega,by go_num,by rw [HS.out];exact HBQ8.out.alloc _,(hB.trans (HB8.out.mono hsB)).alloc (by omega) _⟩
        case measure=>exact ms_
     ·have hkn:Hid (k=n):=by show _=_;omega
      have HBQ:=hd_ bQ
      clear bQ
      go_wp2
      go_ret2
      rw [HRES.out]
      have hQ:=HBQ.out
      rw [hkn.out,whPL_all] at hQ
      exact ⟨_,_,_,rfl,HB7.trans (hB.mono (by omega)),is_box hQ (by simp),lr_,by unfold maxLen;omega⟩
   ·have hres:placedX l days pap day kn=([],ve):=by rw [placedX,if_pos HVP.out,if_neg (by rw [hve];exact he),hve]
    have HRES:=hd_ hres
    have HTE:=hd_ hve
    have HVE:=hd_ he
    have hed:(ve != 0)=true:=by simpa using he
    clear hres hve he
    go_wp2_with (first | (go_at_call 101;refine (p_openA l ⟨pA,pn,pc,rA,rn,rc,tA,tn,tc,sA,sn,sc⟩ kn _ HLO.out (HD.out.now HB2)).mono ?_;rintro e w5 ⟨RA,Rn,Rc,SA,Sn,Sc,bm,TA,Tn,Tc,PA,Pn,Pc,rfl,hb5,hO⟩;have HB5:Below w.heap.size w w5:=bt_ HB2 hb5;have hs5:=HB5.size;have HO:=hd_ hO;have kL5:∀ o,w5.cell? ⟨w.heap.size,o,none⟩=(#[.slice pA pn pc,.slice rA rn rc,.slice tA tn tc,.slice sA sn sc]:Array Value)[o]?:=(fun o=>(hb5.cell (p:=⟨w.heap.size,o,none⟩) zL2).trans (kL2 o));have zL5:w.heap.size<w5.heap.size:=Nat.lt_of_lt_of_le zL2 hb5.size;clear kL2 hO hb5) | (go_at_call 133;refine (p_checkTrueN l kn days D m c0 ⟨⟨pA,pn,pc,rA,rn,rc,tA,tn,tc,sA,sn,sc⟩,kn,RA,Rn,Rc,SA,Sn,Sc,bm,TA,Tn,Tc,PA,Pn,Pc⟩ ve w5 HLO.out HO.out hm (HDY.out.now HB5) HTE.out HVE.out).mono ?_;rintro e w6 ⟨rfl,hb6⟩;have HB6:Below w.heap.size w w6:=bt_ HB5 hb6;have hs6:=HB6.size))
    go_ret2
    rw [HRES.out]
    exact RetLE.err HB6
  ·have hres:placedX l days pap day kn=([],vp):=by rw [placedX,if_neg (by rw [HVP.out];exact hv0),HVP.out]
   have HRES:=hd_ hres
   have hv1:(vp != 0)=true:=by simpa using hv0
   clear hres hv0
   go_wp2
   go_ret2
   rw [HRES.out]
   exact RetLE.err HB2
end Go.Proofs.YtoiompoapikkbaaGreat
