/- Layer 2 of the texts that LoanWheres takes: Ubsq. -/
import Derived.Test.YtoiompoapikkbaaGreatUbpq
set_option linter.unusedVariables false
set_option linter.unusedSimpArgs false
/- Layer 2, the reference: where a folio may be; answer. -/
namespace Go.Proofs.YtoiompoapikkbaaGreat
open Go.RowKit Go.Maps
def refW (P:List (Int × Int)) (day bor:Int):Option Nat→List Int
 | none=>[bor]
 | some k=>if day<(P.getD k (0,0)).1 then [bor] else if (P.getD k (0,0)).2≤day then [0] else [0,bor]
theorem wh_none {l:Led} {kn pap leaf day:Int} (h0:∀ r∈l.rc,0≤r.day) (hL:lastK kn pap leaf day l.rc l.rc.length=none):whL l kn day (pap,leaf)=[0]:=by
 rw [whL,stayP,stayF_last l kn _ _ _ _ h0,hL]
 simp [lastV,whereS]
theorem wh_some {l:Led} {kn pap leaf day:Int} {p:Nat × Int} {r:Rcp} (h0:∀ r∈l.rc,0≤r.day) (hL:lastK kn pap leaf day l.rc l.rc.length=some p) (hr:l.rc[p.1]?=some r):whL l kn day (pap,leaf)=refW (setP l kn) day r.bor (rtIx (tellK l kn l.rt.length) l.rt r.src leaf):=by
 rw [whL,stayP,stayF_last l kn _ _ _ _ h0,hL]
 simp only [lastV,hr,back_rt,opn_tell]
 cases rtIx (tellK l kn l.rt.length) l.rt r.src leaf with
 | none=>simp [ixI,whereS,refW]
 | some k =>
   have h1:¬ ((k:Int)<0):=by omega
   simp [ixI,whereS,refW,h1]
set_option maxRecDepth 10000 in
set_option maxHeartbeats 8000000 in
theorem r_whereV (l:Led) (v:Vw) (pap leaf day:Int) (w:World) (hl:LedOk l) (hTt:v.Tn=v.x.tn) (hDt:v.Dn=v.x.tn) (hd:LedIn w w.heap.size v.x l) (hT:Sq QB 1 w w.heap.size v.TA v.Tn (tellK l v.kn l.rt.length)) (hD:Sq QF 2 w w.heap.size v.DA v.Dn (setP l v.kn)) :
 Calls Tryz.prog 123 #[vwV v,.agg #[.int .i64 pap,.int .i64 leaf],.int .i64 day] w (RetLI (whL l v.kn day (pap,leaf)) w):=by
 obtain ⟨⟨pA,pn,pc,rA,rn,rc,tA,tn,tc,sA,sn,sc⟩,kn,TA,Tn,Tc,DA,Dn,Dc⟩:=v
 obtain rfl:Tn=tn:=hTt
 obtain rfl:Tn=Dn:=hDt.symm
 show Calls _ _ #[.agg #[.slice pA pn pc,.slice rA rn rc,.slice tA Tn tc,.slice sA sn sc,.int .i64 kn,.slice TA Tn Tc,.slice DA Tn Dc],_,_] _ (RetLI (whL l kn day (pap,leaf)) w)
 have HR:Hid (Rcs w w.heap.size rA rn l.rc):=by show Sq _ _ _ _ _ _ _;exact hd.r
 have HTL:Hid (l.rt.length=Tn):=by show _=_;exact hd.t.len
 have hrn6:rn≤1000000:=by have h:=HR.out.len;have h2:=hl.rn;omega
 have htn6:Tn≤1000000:=by have h:=HTL.out;have h2:=hl.tn;omega
 have h0:∀ r∈l.rc,0≤r.day:=fun r hr=>(hl.rc r hr).2.2.2.1
 have HDD:Hid (Sq QF 2 w w.heap.size DA Tn (setP l kn)):=by show Sq _ _ _ _ _ _ _;exact hD
 have HLA:Hid (∀ (W:World) (k:Int),Below w.heap.size w W→lastI (lastK kn pap leaf day l.rc l.rc.length)=k→Calls Tryz.prog 173 #[.agg #[.slice pA pn pc,.slice rA rn rc,.slice tA Tn tc,.slice sA sn sc,.int .i64 kn,.slice TA Tn Tc,.slice DA Tn Dc],.agg #[.int .i64 pap,.int .i64 leaf],.int .i64 day] W fun e w'=>e=.returned (.int .i64 k)∧Below W.heap.size W w'):=by
  show ∀ _,_
  exact fun W k hW h=>r_last_v l ⟨⟨pA,pn,pc,rA,rn,rc,tA,Tn,tc,sA,sn,sc⟩,kn,TA,Tn,Tc,DA,Tn,Dc⟩ pap leaf day k W hrn6 (hd.now hW) h
 have HRO:Hid (∀ (W:World) (a:Nat) (x:Rcp) (k:Int),Below w.heap.size w W→l.rc[a]?=some x→ixI (rtIx (tellK l kn l.rt.length) l.rt x.src leaf)=k→Calls Tryz.prog 130 #[.agg #[.slice pA pn pc,.slice rA rn rc,.slice tA Tn tc,.slice sA sn sc,.int .i64 kn,.slice TA Tn Tc,.slice DA Tn Dc],.int .i64 a,.int .i64 leaf] W fun e w'=>e=.returned (.int .i64 k)∧Below W.heap.size W w'):=by
  show ∀ _,_
  exact fun W a x k hW ha h2=>r_returnOf_v l ⟨⟨pA,pn,pc,rA,rn,rc,tA,Tn,tc,sA,sn,sc⟩,kn,TA,Tn,Tc,DA,Tn,Dc⟩ _ a x leaf k W hrn6 htn6 rfl (hd.now hW) (hT.now abB hW) ha h2
 clear hd hT hD hl
 cases hL:lastK kn pap leaf day l.rc l.rc.length with
 | none =>
   rw [wh_none h0 hL]
   have HLV:Hid (lastI (lastK kn pap leaf day l.rc l.rc.length)=-1):=by show _=_;rw [hL];rfl
   clear hL
   go_enter Tryz.func123,Tryz.ntmps123
   go_wp2_with fail
   refine (HLA.out _ (-1) (by exact bel_) HLV.out).mono ?_
   rintro e w3 ⟨rfl,hb3⟩
   have HB3:Below w.heap.size w w3:=Below.then_ (by exact bel_) hb3
   have hs3:=HB3.size
   go_wp2_with fail
   go_ret
   exact ⟨_,_,_,rfl,by exact bel_,Rd.new _ #[.int .i64 0] 3 1 1 _ (by simp) rfl,Nat.le_refl _,by decide⟩
 | some p =>
   obtain ⟨a,dd⟩:=p
   obtain ⟨-,x,hx,-⟩:=lastK_at hL
   rw [wh_some h0 hL hx]
   have HLV:Hid (lastI (lastK kn pap leaf day l.rc l.rc.length)=(a:Int)):=by show _=_;rw [hL];rfl
   have hia:a<rn:=by rw [← HR.out.len];exact (List.getElem?_eq_some_iff.1 hx).1
   obtain ⟨bx,ox,x',rfl,hbx,hxx,A1,n1,c1,⟨-,g1,-,-,-,-,-⟩,-,-,-⟩:=HR.out.at_ hia
   obtain rfl:x=x':=Option.some.inj (hx.symm.trans hxx)
   have hxn:decide ((a:Int)<0)=false:=by simp
   obtain ⟨q,hq⟩:∃ q,rtIx (tellK l kn l.rt.length) l.rt x.src leaf=q:=⟨_,rfl⟩
   have HKI:Hid (ixI (rtIx (tellK l kn l.rt.length) l.rt x.src leaf)=ixI q):=by show _=_;rw [hq]
   have HQ:=Lib.hid hq
   rw [hq]
   have HX:=Lib.hid hx
   obtain ⟨bor,hbor⟩:∃ b,x.bor=b:=⟨_,rfl⟩
   rw [hbor] at g1 ⊢
   clear hL hx hxx hq hbor
   go_enter Tryz.func123,Tryz.ntmps123
   have bV0:=(BoxA.new w 127 #[.slice pA pn pc,.slice (some ⟨bx,ox,none⟩) rn rc,.slice tA Tn tc,.slice sA sn sc,.int .i64 kn,.slice TA Tn Tc,.slice DA Tn Dc]).alloc (.cells #[.int .i64 pap,.int .i64 leaf] 60)
   have bF0:BoxA ((w.alloc (.cells #[.slice pA pn pc,.slice (some ⟨bx,ox,none⟩) rn rc,.slice tA Tn tc,.slice sA sn sc,.int .i64 kn,.slice TA Tn Tc,.slice DA Tn Dc] 127)).alloc (.cells #[.int .i64 pap,.int .i64 leaf] 60)) (w.heap.size+1) 60 #[.int .i64 pap,.int .i64 leaf]:=by
    have h:=BoxA.new (w.alloc (.cells #[.slice pA pn pc,.slice (some ⟨bx,ox,none⟩) rn rc,.slice tA Tn tc,.slice sA sn sc,.int .i64 kn,.slice TA Tn Tc,.slice DA Tn Dc] 127)) 60 #[.int .i64 pap,.int .i64 leaf]
    simpa using h
   have HBV0:=Lib.hid bV0
   have HBF0:=Lib.hid bF0
   clear bV0 bF0
   go_wp2_with fail
   refine (HLA.out _ a (by exact bel_) HLV.out).mono ?_
   rintro e w3 ⟨rfl,hb3⟩
   have HB3:Below w.heap.size w w3:=Below.then_ (by exact bel_) hb3
   have hs3:=HB3.size
   have bV3:=HBV0.out.ext hb3
   have bF3:=HBF0.out.ext hb3
   have kV:=bV3.cell
   have zV:=bV3.lt
   have kF:=bF3.cell
   have zF:=bF3.lt
   have d1:=(HB3.cell (p:=⟨bx,ox+a*7+1,none⟩) hbx).trans g1
   have hbx3:bx<w3.heap.size:=by omega
   have HBV3:=Lib.hid bV3
   clear hb3 bV3 bF3
   go_wp2_with fail
   refine (HRO.out _ a x (ixI q) HB3 HX.out HKI.out).mono ?_
   rintro e w4 ⟨rfl,hb4⟩
   have HB4:=Below.then_ HB3 hb4
   have hs4:=HB4.size
   have bV4:=HBV3.out.ext hb4
   clear kV zV kF zF d1 hbx3
   have kV:=bV4.cell
   have zV:=bV4.lt
   clear bV4 hb4
   cases q with
   | none =>
     have hneg:decide ((-1:Int)<0)=true:=by decide
     simp only [ixI]
     go_wp2_with fail
     go_ret
     exact ⟨_,_,_,rfl,by exact bel_,Rd.new _ #[.int .i64 bor] 3 1 1 _ (by simp) rfl,Nat.le_refl _,by decide⟩
   | some i =>
     obtain ⟨-,t,ht,-,-⟩:=rt_some HQ.out
     have hit:i<Tn:=by rw [← HTL.out];exact (List.getElem?_eq_some_iff.1 ht).1
     have hin:decide ((i:Int)<0)=false:=by simp
     obtain ⟨bd,od,d,rfl,hbd,hdx,q0,q1⟩:=HDD.out.at_ hit
     have hgd:(setP l kn).getD i (0,0)=d:=by rw [List.getD_eq_getElem?_getD,hdx];rfl
     have e0:=(HB4.cell (p:=⟨bd,od+i*2,none⟩) hbd).trans q0
     have e1:=(HB4.cell (p:=⟨bd,od+i*2+1,none⟩) hbd).trans q1
     have hbd4:bd<w4.heap.size:=by omega
     have HRW:Hid (refW (setP l kn) day bor (some i)=if day<d.1 then [bor] else if d.2≤day then [0] else [0,bor]):=by show _=_;simp only [refW,hgd]
     simp only [ixI]
     clear hgd hdx ht q0 q1
     cases h1:decide (d.1>day) with
     | true =>
       go_wp2_with fail
       go_ret
       rw [HRW.out,if_pos (of_decide_eq_true h1)]
       exact ⟨_,_,_,rfl,by exact bel_,Rd.new _ #[.int .i64 bor] 3 1 1 _ (by simp) rfl,Nat.le_refl _,by decide⟩
     | false =>
       cases h2:decide (d.2≤day) with
       | true =>
         go_wp2_with fail
         go_ret
         rw [HRW.out,if_neg (of_decide_eq_false h1),if_pos (of_decide_eq_true h2)]
         exact ⟨_,_,_,rfl,by exact bel_,Rd.new _ #[.int .i64 0] 3 1 1 _ (by simp) rfl,Nat.le_refl _,by decide⟩
       | false =>
         go_wp2_with fail
         go_ret
         rw [HRW.out,if_neg (of_decide_eq_false h1),if_neg (of_decide_eq_false h2)]
         exact ⟨_,_,_,rfl,by exact bel_,Rd.new _ #[.int .i64 0,.int .i64 bor] 3 1 2 _ (by simp) rfl,Nat.le_refl _,by decide⟩
def ansR (none all:Bool):Int:=if none=true then 0 else if all=true then 1 else 2
theorem r_answer (a b:Bool) (w:World):Calls Tryz.prog 129 #[.bool a,.bool b] w fun e w'=>e=.returned (.int .i64 (ansR a b))∧w=w':=by
 cases a <;> cases b <;>
 ·go_enter Tryz.func129,Tryz.ntmps129
  go_wp2
  go_ret
  exact ⟨rfl,rfl⟩
end Go.Proofs.YtoiompoapikkbaaGreat
/- Layer 2: a ledger, and One, that come in by value. -/
namespace Go.Proofs.YtoiompoapikkbaaGreat
open Go.ChangeShapes Go.WideShapes Go.ChangeAt Go.RowKit Go.Deep Go.Joins Go.Maps
theorem c2_paper:Tryz.prog.cellsOf 29=2:=by kernel_rfl
theorem c7_rcpt:Tryz.prog.cellsOf 32=7:=by kernel_rfl
theorem c8_retn:Tryz.prog.cellsOf 36=8:=by kernel_rfl
theorem c7_sight:Tryz.prog.cellsOf 38=7:=by kernel_rfl
theorem c1_pps:Tryz.prog.cellsOf 22=1:=by kernel_rfl
theorem c1_rcs:Tryz.prog.cellsOf 23=1:=by kernel_rfl
theorem c1_rts:Tryz.prog.cellsOf 24=1:=by kernel_rfl
theorem c1_sgs:Tryz.prog.cellsOf 25=1:=by kernel_rfl
theorem c4_ledger:Tryz.prog.cellsOf 27=4:=by kernel_rfl
theorem lenx4 {α:Type}:∀ {l:List α},l.length=4→∃ a0 a1 a2 a3,l=[a0,a1,a2,a3]
 | [a0,a1,a2,a3],_=>⟨a0,a1,a2,a3,rfl⟩
theorem lenx7 {α:Type}:∀ {l:List α},l.length=7→∃ a0 a1 a2 a3 a4 a5 a6,l=[a0,a1,a2,a3,a4,a5,a6]
 | [a0,a1,a2,a3,a4,a5,a6],_=>⟨a0,a1,a2,a3,a4,a5,a6,rfl⟩
theorem lenx8 {α:Type}:∀ {l:List α},l.length=8→∃ a0 a1 a2 a3 a4 a5 a6 a7,l=[a0,a1,a2,a3,a4,a5,a6,a7]
 | [a0,a1,a2,a3,a4,a5,a6,a7],_=>⟨a0,a1,a2,a3,a4,a5,a6,a7,rfl⟩
section
variable {H:Type} {enc:TypeId × Value→H} {w:World} {base:Nat} {spare:Nat→Bool} {held:Bool} {fuel:Nat} {cs:List Value} {x:DataW H × List MemPlace}
theorem paper_of (h:DataW.trod enc Tryz.prog w base spare held fuel 29 cs=some x):∃ v:Ppr,cs=ppC v:=by
 obtain ⟨xs,n,_,_,hl,hx,hf⟩:=DataW.trod_struct Tryz.underlying29 h
 rw [c2_paper] at hl
 obtain ⟨y0,e0⟩:=some_at hx (i:=0) (by decide)
 obtain ⟨y1,e1⟩:=some_at hx (i:=1) (by decide)
 obtain ⟨c0,c1,rfl⟩:=len2 hl
 obtain ⟨a,ha⟩:=int_of ((hf 0 _ rfl).trans e0)
 obtain ⟨b,hb⟩:=int_of ((hf 1 _ rfl).trans e1)
 simp [c1_int] at ha hb
 exact ⟨⟨a,b⟩,by rw [ha,hb]⟩
theorem sight_of (h:DataW.trod enc Tryz.prog w base spare held fuel 38 cs=some x):∃ v:Sgt,cs=sgC v:=by
 obtain ⟨xs,n,_,_,hl,hx,hf⟩:=DataW.trod_struct Tryz.underlying38 h
 rw [c7_sight] at hl
 obtain ⟨y0,e0⟩:=some_at hx (i:=0) (by decide)
 obtain ⟨y1,e1⟩:=some_at hx (i:=1) (by decide)
 obtain ⟨y2,e2⟩:=some_at hx (i:=2) (by decide)
 obtain ⟨y3,e3⟩:=some_at hx (i:=3) (by decide)
 obtain ⟨y4,e4⟩:=some_at hx (i:=4) (by decide)
 obtain ⟨y5,e5⟩:=some_at hx (i:=5) (by decide)
 obtain ⟨y6,e6⟩:=some_at hx (i:=6) (by decide)
 obtain ⟨c0,c1,c2,c3,c4,c5,c6,rfl⟩:=lenx7 hl
 obtain ⟨a0,h0⟩:=int_of ((hf 0 _ rfl).trans e0)
 obtain ⟨a1,h1⟩:=int_of ((hf 1 _ rfl).trans e1)
 obtain ⟨a2,h2⟩:=int_of ((hf 2 _ rfl).trans e2)
 obtain ⟨a3,h3⟩:=int_of ((hf 3 _ rfl).trans e3)
 obtain ⟨a4,h4⟩:=int_of ((hf 4 _ rfl).trans e4)
 obtain ⟨a5,h5⟩:=int_of ((hf 5 _ rfl).trans e5)
 obtain ⟨a6,h6⟩:=int_of ((hf 6 _ rfl).trans e6)
 simp [c1_int] at h0 h1 h2 h3 h4 h5 h6
 exact ⟨⟨a0,a1,a2,a3,a4,a5,a6⟩,by simp [h0,h1,h2,h3,h4,h5,h6]⟩
theorem rcpt_of (h:DataW.trod enc Tryz.prog w base spare held fuel 32 cs=some x):∃ v:Rv,cs=rvC v∧(Is w w.heap.size v.A v.n v.r.lv∧v.n≤v.c∧v.c≤maxLen):=by
 obtain ⟨xs,n,_,_,hl,hx,hf⟩:=DataW.trod_struct Tryz.underlying32 h
 rw [c7_rcpt] at hl
 obtain ⟨y0,e0⟩:=some_at hx (i:=0) (by decide)
 obtain ⟨y1,e1⟩:=some_at hx (i:=1) (by decide)
 obtain ⟨y2,e2⟩:=some_at hx (i:=2) (by decide)
 obtain ⟨y3,e3⟩:=some_at hx (i:=3) (by decide)
 obtain ⟨y4,e4⟩:=some_at hx (i:=4) (by decide)
 obtain ⟨y5,e5⟩:=some_at hx (i:=5) (by decide)
 obtain ⟨y6,e6⟩:=some_at hx (i:=6) (by decide)
 obtain ⟨c0,c1,c2,c3,c4,c5,c6,rfl⟩:=lenx7 hl
 obtain ⟨a0,h0⟩:=int_of ((hf 0 _ rfl).trans e0)
 obtain ⟨a1,h1⟩:=int_of ((hf 1 _ rfl).trans e1)
 obtain ⟨a2,h2⟩:=int_of ((hf 2 _ rfl).trans e2)
 obtain ⟨a4,h4⟩:=int_of ((hf 4 _ rfl).trans e4)
 obtain ⟨a5,h5⟩:=int_of ((hf 5 _ rfl).trans e5)
 obtain ⟨a6,h6⟩:=int_of ((hf 6 _ rfl).trans e6)
 obtain ⟨A,m,cc,h3,g1,g2,l,g3⟩:=ints_cell ((hf 3 _ rfl).trans e3)
 simp [c1_int,c1_ints] at h0 h1 h2 h3 h4 h5 h6
 exact ⟨⟨⟨a0,a1,a2,l,a4,a5,a6⟩,A,m,cc⟩,by simp [h0,h1,h2,h3,h4,h5,h6],g3,g1,g2⟩
theorem retn_of (h:DataW.trod enc Tryz.prog w base spare held fuel 36 cs=some x):∃ v:Tv,cs=tvC v∧(Is w w.heap.size v.A v.n v.r.lv∧v.n≤v.c∧v.c≤maxLen):=by
 obtain ⟨xs,n,_,_,hl,hx,hf⟩:=DataW.trod_struct Tryz.underlying36 h
 rw [c8_retn] at hl
 obtain ⟨y0,e0⟩:=some_at hx (i:=0) (by decide)
 obtain ⟨y1,e1⟩:=some_at hx (i:=1) (by decide)
 obtain ⟨y2,e2⟩:=some_at hx (i:=2) (by decide)
 obtain ⟨y3,e3⟩:=some_at hx (i:=3) (by decide)
 obtain ⟨y4,e4⟩:=some_at hx (i:=4) (by decide)
 obtain ⟨y5,e5⟩:=some_at hx (i:=5) (by decide)
 obtain ⟨y6,e6⟩:=some_at hx (i:=6) (by decide)
 obtain ⟨c0,c1,c2,c3,c4,c5,c6,c7,rfl⟩:=lenx8 hl
 obtain ⟨a0,h0⟩:=int_of ((hf 0 _ rfl).trans e0)
 obtain ⟨a1,h1⟩:=int_of ((hf 1 _ rfl).trans e1)
 obtain ⟨a2,h2⟩:=int_of ((hf 2 _ rfl).trans e2)
 obtain ⟨a5,h5⟩:=int_of ((hf 5 _ rfl).trans e5)
 obtain ⟨a6,h6⟩:=int_of ((hf 6 _ rfl).trans e6)
 obtain ⟨A,m,cc,h3,g1,g2,l,g3⟩:=ints_cell ((hf 3 _ rfl).trans e3)
 obtain ⟨lo,hi,h4⟩:=range_of ((hf 4 _ rfl).trans e4)
 simp [c1_int,c1_ints,c2_range] at h0 h1 h2 h3 h4 h5 h6
 exact ⟨⟨⟨a0,a1,a2,l,lo,hi,a5,a6⟩,A,m,cc⟩,by simp [h0,h1,h2,h3,h4,h5,h6],g3,g1,g2⟩
theorem slice_cell {t e:TypeId} (ht:Tryz.prog.underlying t=some (.slice e)) (h:DataW.trod enc Tryz.prog w base spare held fuel t cs=some x):∃ A n c,cs=(Value.slice A n c).cells.toList:=by
 rcases open_slice ht h with ⟨rfl,_⟩ | ⟨a,len,cap,m,nn,D,Pl,rfl,_⟩
 ·exact ⟨none,0,0,rfl⟩
 ·exact ⟨some a,len,cap,rfl⟩
theorem pps_of {A:Option Addr} {n c:Nat} (h:DataW.trod enc Tryz.prog w base spare held fuel 22 (Value.slice A n c).cells.toList=some x):n≤c∧c≤maxLen∧∃ l,Pps w w.heap.size A n l:=by
 obtain ⟨h1,h2,l,hl,h3⟩:=row_of ppC (fun _=>rfl) (by decide) Tryz.underlying22 c2_paper (fun _ _ _ h=>paper_of h) h
 exact ⟨h1,h2,l,sq_pp h3 hl⟩
theorem sgs_of {A:Option Addr} {n c:Nat} (h:DataW.trod enc Tryz.prog w base spare held fuel 25 (Value.slice A n c).cells.toList=some x):n≤c∧c≤maxLen∧∃ l,Sgs w w.heap.size A n l:=by
 obtain ⟨h1,h2,l,hl,h3⟩:=row_of sgC (fun _=>rfl) (by decide) Tryz.underlying25 c7_sight (fun _ _ _ h=>sight_of h) h
 exact ⟨h1,h2,l,sq_sg h3 hl⟩
theorem rcs_of2 {A:Option Addr} {n c:Nat} (h:DataW.trod enc Tryz.prog w base spare held fuel 23 (Value.slice A n c).cells.toList=some x):n≤c∧c≤maxLen∧∃ l,Rcs w w.heap.size A n l:=by
 obtain ⟨h1,h2,l,hl,h3⟩:=row_of (α:={ v:Rv // Is w w.heap.size v.A v.n v.r.lv∧v.n≤v.c∧v.c≤maxLen }) (fun v=>rvC v.1) (fun _=>rfl) (by decide) Tryz.underlying23 c7_rcpt (fun _ _ _ h=>by obtain ⟨v,e,hv⟩:=rcpt_of h;exact ⟨⟨v,hv⟩,e⟩) h
 refine ⟨h1,h2,(l.map Subtype.val).map Rv.r,rcs_of (sq_rv ?_ (by rw [List.length_map];exact hl) fun v hv=>?_)⟩
 ·unfold rvCells
  rw [List.flatMap_map]
  exact h3
 ·obtain ⟨u,_,rfl⟩:=List.mem_map.1 hv
  exact u.2
theorem rts_of2 {A:Option Addr} {n c:Nat} (h:DataW.trod enc Tryz.prog w base spare held fuel 24 (Value.slice A n c).cells.toList=some x):n≤c∧c≤maxLen∧∃ l,Rts w w.heap.size A n l:=by
 obtain ⟨h1,h2,l,hl,h3⟩:=row_of (α:={ v:Tv // Is w w.heap.size v.A v.n v.r.lv∧v.n≤v.c∧v.c≤maxLen }) (fun v=>tvC v.1) (fun _=>rfl) (by decide) Tryz.underlying24 c8_retn (fun _ _ _ h=>by obtain ⟨v,e,hv⟩:=retn_of h;exact ⟨⟨v,hv⟩,e⟩) h
 refine ⟨h1,h2,(l.map Subtype.val).map Tv.r,rts_of ?_ (by rw [List.length_map];exact hl) fun v hv=>?_⟩
 ·rw [List.flatMap_map]
  exact h3
 ·obtain ⟨u,_,rfl⟩:=List.mem_map.1 hv
  exact u.2
end
section
variable {H:Type} {enc:TypeId × Value→H} {w:World} {base:Nat} {spare:Nat→Bool} {held:Bool} {r:Reach} {b0:Nat} {v:Value} {d:DataW H} {p:List MemPlace}
set_option maxRecDepth 100000 in
theorem ledger_of (hv:Value.okWide Tryz.prog w r b0 27 v) (h:DataW.Trod enc Tryz.prog w base spare held 27 v d p):∃ (y:Lsl) (l:Led),v=.agg #[.slice y.pA y.pn y.pc,.slice y.rA y.rn y.rc,.slice y.tA y.tn y.tc,.slice y.sA y.sn y.sc]∧y.fit∧LedIn w w.heap.size y l:=by
 obtain ⟨cs,rfl,_⟩:=okWide_struct Tryz.underlying27 hv
 obtain ⟨fuel,hf0⟩:=h
 simp only [Value.cells] at hf0
 obtain ⟨xs,n,_,_,hl,hx,hf⟩:=DataW.trod_struct Tryz.underlying27 hf0
 rw [c4_ledger] at hl
 obtain ⟨y0,e0⟩:=some_at hx (i:=0) (by decide)
 obtain ⟨y1,e1⟩:=some_at hx (i:=1) (by decide)
 obtain ⟨y2,e2⟩:=some_at hx (i:=2) (by decide)
 obtain ⟨y3,e3⟩:=some_at hx (i:=3) (by decide)
 obtain ⟨c0,c1,c2,c3,hcs⟩:=lenx4 hl
 rw [hcs] at hf
 have t0:=(hf 0 _ rfl).trans e0
 have t1:=(hf 1 _ rfl).trans e1
 have t2:=(hf 2 _ rfl).trans e2
 have t3:=(hf 3 _ rfl).trans e3
 obtain ⟨A0,n0,q0,h0⟩:=slice_cell Tryz.underlying22 t0
 obtain ⟨A1,n1,q1,h1⟩:=slice_cell Tryz.underlying23 t1
 obtain ⟨A2,n2,q2,h2⟩:=slice_cell Tryz.underlying24 t2
 obtain ⟨A3,n3,q3,h3⟩:=slice_cell Tryz.underlying25 t3
 rw [h0] at t0
 rw [h1] at t1
 rw [h2] at t2
 rw [h3] at t3
 obtain ⟨f0,g0,l0,k0⟩:=pps_of t0
 obtain ⟨f1,g1,l1,k1⟩:=rcs_of2 t1
 obtain ⟨f2,g2,l2,k2⟩:=rts_of2 t2
 obtain ⟨f3,g3,l3,k3⟩:=sgs_of t3
 simp [c1_pps,c1_rcs,c1_rts,c1_sgs,Value.cells] at h0 h1 h2 h3
 refine ⟨⟨A0,n0,q0,A1,n1,q1,A2,n2,q2,A3,n3,q3⟩,⟨l0,l1,l2,l3⟩,?_,⟨⟨f0,g0⟩,⟨f1,g1⟩,⟨f2,g2⟩,⟨f3,g3⟩⟩,⟨k0,k1,k2,k3⟩⟩
 congr 1
 apply Array.toList_inj.1
 rw [hcs]
 simp [h0,h1,h2,h3]
end
end Go.Proofs.YtoiompoapikkbaaGreat
