/- Layer 2 of the texts that LoanBack takes: Bapq. -/
import Derived.Test.YtmcmbicapdcfmaaGreatBaoq
set_option linter.unusedVariables false
set_option linter.unusedSimpArgs false
set_option maxHeartbeats 16000000
namespace Go.Proofs.YtmcmbicapdcfmaaGreat
open Go.RowKit Go.Shelf Go.Maps
attribute [local go_sem] Oper.semAt_some
theorem BoxA.set {W:World} {B:Nat} {t:TypeId} {cs:Array Value} (h:BoxA W B t cs) (j:Nat) (u:Value):BoxA (W.setCell ⟨B,j,none⟩ u) B t (cs.setIfInBounds j u):=heap_setCell_same _ _ _ _ _ _ h
theorem BoxA.other {W:World} {B:Nat} {t:TypeId} {cs:Array Value} (h:BoxA W B t cs) {p:Addr} (hp:B≠p.block) (u:Value):BoxA (W.setCell p u) B t cs:=(Below.heap_setCell _ _ _ _ hp).trans h
def getN (M:List ((Int × Int) × Nat)) (k:Int × Int):Option Nat:=match M with
 | []=>none
 | x :: l=>if x.1=k then some x.2 else getN l k
def putN (M:List ((Int × Int) × Nat)) (k:Int × Int) (v:Nat):List ((Int × Int) × Nat):=match M with
 | []=>[(k,v)]
 | x :: l=>if x.1=k then (k,v) :: l else x :: putN l k v
def encM (M:List ((Int × Int) × Nat)):List ((Int × Int) × Value):=M.map fun x=>(x.1,.int .i64 x.2)
theorem getG_enc (M:List ((Int × Int) × Nat)) (k:Int × Int):getG (encM M) k=(getN M k).map fun i:Nat=>.int .i64 i:=by
 induction M with
 | nil=>rfl
 | cons x l ih =>
   by_cases h:x.1=k
   ·simp [encM,getG,getN,h]
   ·simp only [encM,List.map_cons,getG,getN,h,if_false]
    exact ih
theorem putG_enc (M:List ((Int × Int) × Nat)) (k:Int × Int) (v:Nat):putG (encM M) k (.int .i64 v)=encM (putN M k v):=by
 induction M with
 | nil=>rfl
 | cons x l ih =>
   by_cases h:x.1=k
   ·simp [encM,putG,putN,h]
   ·simp only [encM,List.map_cons,putG,putN,h,if_false]
    exact congrArg _ ih
theorem getN_put (M:List ((Int × Int) × Nat)) (k j:Int × Int) (v:Nat):getN (putN M k v) j=if j=k then some v else getN M j:=by
 induction M with
 | nil =>
   by_cases h:j=k
   ·simp [putN,getN,h]
   ·have h2:¬ k=j:=fun e=>h e.symm
    simp [putN,getN,h,h2]
 | cons x l ih =>
   by_cases hx:x.1=k
   ·by_cases h:j=k
    ·subst h;simp [putN,getN,hx]
    ·have h2:¬ k=j:=fun e=>h e.symm
     have h3:¬ x.1=j:=fun e=>h (e.symm.trans hx)
     simp [putN,getN,hx,h,h2]
   ·simp only [putN,hx,if_false,getN,ih]
    by_cases h:j=k
    ·subst h;simp [hx]
    ·simp [h]
def backI (M:List ((Int × Int) × Nat)) (src leaf:Int):Int:=match getN M (src,leaf) with
 | some i=>i
 | none=>-1
def stayStep (M:List ((Int × Int) × Nat)) (leaf day:Int) (s:Int × Int × Int) (r:Rcp):Int × Int × Int :=
 if day<r.day∨r.day≤s.2.2 then s else (r.bor,backI M r.src leaf,r.day)
def stayL (M:List ((Int × Int) × Nat)) (leaf day:Int) (rs:List Rcp):Int × Int × Int:=rs.foldl (stayStep M leaf day) (0,-1,-1)
theorem stayL_snoc (M:List ((Int × Int) × Nat)) (leaf day:Int) (rs:List Rcp) (r:Rcp):stayL M leaf day (rs ++ [r])=stayStep M leaf day (stayL M leaf day rs) r:=by simp [stayL]
def stayF (M:List ((Int × Int) × Nat)) (R:List Rcp) (pap leaf day:Int):Int × Int × Int:=stayL M leaf day (R.filter (isOfB pap leaf))
theorem ofL_map (xs:List Rv) (pap leaf:Int):(ofL xs pap leaf).map Rv.r=(xs.map Rv.r).filter (isOfB pap leaf):=by
 rw [ofL,List.filter_map];rfl
def staySI {xs:List Rv} {pap leaf:Int} (M:List ((Int × Int) × Nat)) (day:Int) (pre:List (YR xs pap leaf)):Int × Int × Int:=stayL M leaf day (pre.map (·.1.r))
theorem staySI_snoc {xs:List Rv} {pap leaf:Int} (M:List ((Int × Int) × Nat)) (day:Int) (pre:List (YR xs pap leaf)) (x:YR xs pap leaf):staySI M day (pre ++ [x])=stayStep M leaf day (staySI M day pre) x.1.r:=by
 rw [staySI,List.map_append,List.map_cons,List.map_nil,stayL_snoc];rfl
set_option maxRecDepth 100000 in
theorem p_stay (M:List ((Int × Int) × Nat)) (R:List Rcp) (a:Acc) (pap leaf day:Int) (w:World) (hN:a.Rn≤1000000) (hN1:∀ r∈R,r.lv.length≤1000000∧(Lit.int .i64 r.src).wf=true) (hwl:(Lit.int .i64 leaf).wf=true)
 (hm:MapS w a.bm (encM M)) (hr:Rcs w w.heap.size a.RA a.Rn R) :
 Calls Tryz.prog 68 #[accV a,.agg #[.int .i64 pap,.int .i64 leaf],.int .i64 day] w fun e w'=>e=.returned (.agg #[.int .i64 (stayF M R pap leaf day).1,.int .i64 (stayF M R pap leaf day).2.1])∧Below w.heap.size w w':=by
 obtain ⟨xs,rfl,hx⟩:=rvs_of hr
 have hl1:∀ v∈xs,v.n≤1000000:=fun v hv=>by
  obtain ⟨k,hk⟩:=List.getElem?_of_mem hv
  obtain ⟨b,o,y,_,_,hy,hq⟩:=hx.at_ (k:=k) (by rw [← hx.len];exact (List.getElem?_eq_some_iff.1 hk).1)
  obtain rfl:v=y:=Option.some.inj (hk.symm.trans hy)
  rw [← hq.2.1.len]
  exact (hN1 v.r (List.mem_map.2 ⟨v,hv,rfl⟩)).1
 have hsw:∀ v∈xs,(Lit.int .i64 v.r.src).wf=true:=fun v hv=>(hN1 v.r (List.mem_map.2 ⟨v,hv,rfl⟩)).2
 rw [stayF,← ofL_map]
 obtain ⟨⟨pA,pn,pc,rA,rn,rc,tA,tn,tc,sA,sn,sc⟩,kn,RA,Rn,Rc,SA,Sn,Sc,bm,TA,Tn,Tc,PA,Pn,Pc⟩:=a
 show Calls _ _ #[.agg #[.slice pA pn pc,.slice rA rn rc,.slice tA tn tc,.slice sA sn sc,.int .i64 kn,.slice RA Rn Rc,.slice SA Sn Sc,.map (some bm),.slice TA Tn Tc,.slice PA Pn Pc],_,_] _ _
 have hN':Rn≤1000000:=hN
 have HM:Hid (MapS w bm (encM M)):=by show MapG _ _ _ _ _;exact hm
 have HX:Hid (Sq QV 7 w w.heap.size RA Rn xs):=by show Sq _ _ _ _ _ _ _;exact hx
 have HS:=hd_ hsw
 have HL1:=hd_ hl1
 clear hm hr hx hN hN1 hl1 hsw
 refine (callsIn_wide (n:=9)).1 ?_
 have h1:1≤9:=by omega
 (refine callsIn_of_wp_marks Tryz.func68 rfl trivial ?_ rfl;simp only [Tryz.ntmps68,List.size_toArray,List.length_cons,List.length_nil,Nat.reduceAdd,Nat.reduceSub,Array.replicate_succ,Array.replicate_zero,List.push_toArray,List.append_toArray,List.nil_append,List.cons_append])
 gi_wp2_with (refine ⟨trivial,?_⟩;gi_at_call 121;refine (callsIn_wide.2 (p_of ⟨⟨pA,pn,pc,rA,rn,rc,tA,tn,tc,sA,sn,sc⟩,kn,RA,Rn,Rc,SA,Sn,Sc,bm,TA,Tn,Tc,PA,Pn,Pc⟩ pap leaf _)).mono ?_;rintro e w1 ⟨rfl,hw1⟩)
 refine wpIn_named2 fun a0 W0 ha0 hW0=>?_
 have hsz:W0.heap.size=w.heap.size+8:=by rw [← hW0];simp
 have hB0:Below w.heap.size w W0:=by rw [← hW0];exact bel_
 have b0:BoxA W0 w.heap.size 115 #[.slice pA pn pc,.slice rA rn rc,.slice tA tn tc,.slice sA sn sc,.int .i64 kn,.slice RA Rn Rc,.slice SA Sn Sc,.map (some bm),.slice TA Tn Tc,.slice PA Pn Pc]:=by (rw [← hW0];simp only [boxed_iff,boxa_iff,alloc_get,drew_heap,World.size_alloc];(repeat (first | rw [if_pos trivial] | rw [if_pos (by omega)] | rw [if_neg (by omega)])))
 have b1:BoxA W0 (w.heap.size+1) 48 #[.int .i64 pap,.int .i64 leaf]:=by (rw [← hW0];simp only [boxed_iff,boxa_iff,alloc_get,drew_heap,World.size_alloc];(repeat (first | rw [if_pos trivial] | rw [if_pos (by omega)] | rw [if_neg (by omega)])))
 have b2:BoxA W0 (w.heap.size+1+1) 3 #[.int .i64 day]:=by (rw [← hW0];simp only [boxed_iff,boxa_iff,alloc_get,drew_heap,World.size_alloc];(repeat (first | rw [if_pos trivial] | rw [if_pos (by omega)] | rw [if_neg (by omega)])))
 have b4:BoxA W0 (w.heap.size+1+1+1+1) 120 #[.int .i64 0,.int .i64 (-1)]:=by (rw [← hW0];simp only [boxed_iff,boxa_iff,alloc_get,drew_heap,World.size_alloc];(repeat (first | rw [if_pos trivial] | rw [if_pos (by omega)] | rw [if_neg (by omega)])))
 have b5:BoxA W0 (w.heap.size+1+1+1+1+1) 3 #[.int .i64 (-1)]:=by (rw [← hW0];simp only [boxed_iff,boxa_iff,alloc_get,drew_heap,World.size_alloc];(repeat (first | rw [if_pos trivial] | rw [if_pos (by omega)] | rw [if_neg (by omega)])))
 have b3:BoxA W0 (w.heap.size+1+1+1) 120 #[.int .i64 0,.int .i64 0]:=by (rw [← hW0];simp only [boxed_iff,boxa_iff,alloc_get,drew_heap,World.size_alloc];(repeat (first | rw [if_pos trivial] | rw [if_pos (by omega)] | rw [if_neg (by omega)])))
 have b6:BoxA W0 (w.heap.size+1+1+1+1+1+1) 115 #[.slice pA pn pc,.slice rA rn rc,.slice tA tn tc,.slice sA sn sc,.int .i64 kn,.slice RA Rn Rc,.slice SA Sn Sc,.map (some bm),.slice TA Tn Tc,.slice PA Pn Pc]:=by (rw [← hW0];simp only [boxed_iff,boxa_iff,alloc_get,drew_heap,World.size_alloc];(repeat (first | rw [if_pos trivial] | rw [if_pos (by omega)] | rw [if_neg (by omega)])))
 have b7:BoxA W0 (w.heap.size+1+1+1+1+1+1+1) 48 #[.int .i64 pap,.int .i64 leaf]:=by (rw [← hW0];simp only [boxed_iff,boxa_iff,alloc_get,drew_heap,World.size_alloc];(repeat (first | rw [if_pos trivial] | rw [if_pos (by omega)] | rw [if_neg (by omega)])))
 clear hW0
 have hPw:∀ k,(fun k=>k<w.heap.size∨k=w.heap.size∨k=(w.heap.size+1)∨k=(w.heap.size+1+1)∨k=(w.heap.size+1+1+1+1+1+1)∨k=(w.heap.size+1+1+1+1+1+1+1)) k→k<W0.heap.size:=fun k hk=>by simp only at hk;omega
 refine wpIn_rangeFunc_ownH rfl h1 (gf:=155) (lb:=#[.pointer (some ⟨(w.heap.size+1+1+1+1+1+1),0,none⟩),.pointer (some ⟨(w.heap.size+1+1+1+1+1+1+1),0,none⟩)]) (by subst ha0;rfl) trivial (enters_of Tryz.func155 (by kernel_rfl) rfl)
  (of_stops 8 (by omega) (w.heap.size+1+1+1+1+1+1) (w.heap.size+1+1+1+1+1+1+1) w.heap.size (fun k=>k<w.heap.size∨k=w.heap.size∨k=(w.heap.size+1)∨k=(w.heap.size+1+1)∨k=(w.heap.size+1+1+1+1+1+1)∨k=(w.heap.size+1+1+1+1+1+1+1)) xs pap leaf RA Rn Rc W0 hN' HL1.out (fun k hk=>.inl hk) (.inr (.inr (.inr (.inr (.inl rfl))))) (.inr (.inr (.inr (.inr (.inr rfl))))) hPw (by omega) (b6.cell 5) (b7.cell 0) (b7.cell 1) (HX.out.ext abV hB0 lr_))
  keepP_t (keepP_b hPw) (Below.refl _ _) (fun _=>rfl)
  (fun pre W=>(BoxA W (w.heap.size+1+1+1+1) 120 #[.int .i64 (staySI M day pre).1,.int .i64 (staySI M day pre).2.1]∧BoxA W (w.heap.size+1+1+1+1+1) 3 #[.int .i64 (staySI M day pre).2.2]∧BoxA W (w.heap.size+1+1+1) 120 #[.int .i64 0,.int .i64 0])∧(KeepP (fun k=>k<w.heap.size∨k=w.heap.size∨k=(w.heap.size+1)∨k=(w.heap.size+1+1)∨k=(w.heap.size+1+1+1+1+1+1)∨k=(w.heap.size+1+1+1+1+1+1+1)) W0 W∧Below w.heap.size w W))
  (fun _ _ _=>False)
  (OwnFrom.and (OwnFrom.and (Own.from (boxa_own _ _ _) _) (OwnFrom.and (Own.from (boxa_own _ _ _) _) (Own.from (boxa_own _ _ _) _))) (OwnFrom.and (ownFrom_keepP W0 hPw hPw) (ownFrom_below lr_ (by omega))))
  (fun _ _ _ _ _ hs _ _=>hs)
  ⟨⟨b4,b5,b3⟩,KeepP.refl _ _,hB0⟩
  (fun x a' W=>∃ Bx,W0.heap.size≤Bx∧BoxA W Bx 79 #[.int .i64 x.1.r.src,.int .i64 x.1.r.bor,.int .i64 x.1.r.pap,.slice x.1.A x.1.n x.1.c,.int .i64 x.1.r.day,.int .i64 x.1.r.kn,.int .i64 x.1.r.un]∧a'={ tmps:=(a0.tmps.setIfInBounds 16 (rvV x.1)).setIfInBounds 9 (.pointer (some ⟨Bx,0,none⟩)),defers:=[] })
  (fun x a' _ X Y row hs hg hr=>by obtain ⟨Bx,g1,g2,g3⟩:=hs;exact ⟨Bx,g1,boxa_own Bx _ (fun (_:Unit)=>_) () X Y row g2 hg (fun r e=>(hr r e).2),g3⟩)
  ?assign ?body ?done ?stop
 case assign =>
  subst ha0
  rintro l pre x W K ⟨⟨g4,g5,g3⟩,gK,gB⟩ hK
  simp only [encR]
  gi_wp2
  exact hK _ _ ((KeepsOthers.alloc _ _).from _) (KeepP.of_below (B:=W.heap.size) (by exact bel_) fun k hk=>Nat.lt_of_lt_of_le (hPw k hk) gK.size) ⟨⟨g4.alloc _,g5.alloc _,g3.alloc _⟩,gK.trans (KeepP.of_below (B:=W.heap.size) (by exact bel_) fun k hk=>Nat.lt_of_lt_of_le (hPw k hk) gK.size),gB.alloc gB.size _⟩ ⟨W.heap.size,gK.size,BoxA.new W _ _,rfl⟩
 case body =>
  subst ha0
  rintro l pre x a' W hl ⟨r,hr⟩ ⟨⟨g4,g5,g3⟩,gK,gB⟩ ⟨Bx,hBx,bX,rfl⟩ hlt
  obtain ⟨⟨sp,sb,sl⟩,hst⟩:∃ s,staySI M day pre=s:=⟨_,rfl⟩
  rw [hst] at g4 g5
  have HST:=hd_ hst
  clear hst
  have hgs:=gK.size
  have xw:=HS.out x.1 ((List.mem_filter.1 x.2).1)
  have c0:=(gK.cell (b:=w.heap.size) (.inr (.inl rfl)) 7).trans (b0.cell 7)
  have c1:=(gK.cell (b:=(w.heap.size+1)) (.inr (.inr (.inl rfl))) 1).trans (b1.cell 1)
  have c2:=(gK.cell (b:=(w.heap.size+1+1)) (.inr (.inr (.inr (.inl rfl)))) 0).trans (b2.cell 0)
  have c4:=g4.cell
  have c5:=g5.cell
  have cX:=bX.cell
  have z4:=g4.lt
  have z5:=g5.lt
  have zX:=bX.lt
  have hmo:Tryz.prog.follows .mixedOrders=true:=by kernel_rfl
  have f4:∀ j,W.frozen? ⟨(w.heap.size+1+1+1+1),j,none⟩=false:=fun j=>by simp [World.frozen?,show W.heap[(w.heap.size+1+1+1+1)]?=_ from g4]
  have f5:∀ j,W.frozen? ⟨(w.heap.size+1+1+1+1+1),j,none⟩=false:=fun j=>by simp [World.frozen?,show W.heap[(w.heap.size+1+1+1+1+1)]?=_ from g5]
  simp only [List.setIfInBounds_toArray,List.set_cons_zero,List.set_cons_succ]
  by_cases h1:day<x.1.r.day
  ·have HF:Hid (stayStep M leaf day (sp,sb,sl) x.1.r=(sp,sb,sl)):=by show _=_;simp [stayStep,h1]
   gi_wp2
   exact ⟨(KeepsOthers.refl _).from _,KeepP.refl _ _,⟨⟨by rw [staySI_snoc,HST.out,HF.out];exact g4,by rw [staySI_snoc,HST.out,HF.out];exact g5,g3⟩,gK,gB⟩⟩
  ·by_cases h2:x.1.r.day≤sl
   ·have HF:Hid (stayStep M leaf day (sp,sb,sl) x.1.r=(sp,sb,sl)):=by show _=_;simp [stayStep,h2]
    gi_wp2
    exact ⟨(KeepsOthers.refl _).from _,KeepP.refl _ _,⟨⟨by rw [staySI_snoc,HST.out,HF.out];exact g4,by rw [staySI_snoc,HST.out,HF.out];exact g5,g3⟩,gK,gB⟩⟩
   ·obtain ⟨W3,hW3⟩:∃ W3,(((W.setCell ⟨(w.heap.size+1+1+1+1),0,none⟩ (.int .i64 x.1.r.bor)).setCell ⟨(w.heap.size+1+1+1+1),1,none⟩ (.int .i64 (-1))).setCell ⟨(w.heap.size+1+1+1+1+1),0,none⟩ (.int .i64 x.1.r.day)).drew=W3:=⟨_,rfl⟩
    have k1:¬ (fun k=>k<w.heap.size∨k=w.heap.size∨k=(w.heap.size+1)∨k=(w.heap.size+1+1)∨k=(w.heap.size+1+1+1+1+1+1)∨k=(w.heap.size+1+1+1+1+1+1+1)) (w.heap.size+1+1+1+1):=by simp only;omega
    have k2:¬ (fun k=>k<w.heap.size∨k=w.heap.size∨k=(w.heap.size+1)∨k=(w.heap.size+1+1)∨k=(w.heap.size+1+1+1+1+1+1)∨k=(w.heap.size+1+1+1+1+1+1+1)) (w.heap.size+1+1+1+1+1):=by simp only;omega
    have KO3:KeepsOthers W W3:=by rw [← hW3];exact (((KeepsOthers.setCell W _ _).trans (KeepsOthers.setCell _ _ _)).trans (KeepsOthers.setCell _ _ _)).trans (KeepsOthers.drew _)
    have KP3:KeepP (fun k=>k<w.heap.size∨k=w.heap.size∨k=(w.heap.size+1)∨k=(w.heap.size+1+1)∨k=(w.heap.size+1+1+1+1+1+1)∨k=(w.heap.size+1+1+1+1+1+1+1)) W W3:=by rw [← hW3];exact (((KeepP.setCell W _ k1).trans (KeepP.setCell _ _ k1)).trans (KeepP.setCell _ _ k2)).trans (KeepP.drew _)
    have n45:(w.heap.size+1+1+1+1)≠(w.heap.size+1+1+1+1+1):=by omega
    have n54:(w.heap.size+1+1+1+1+1)≠(w.heap.size+1+1+1+1):=by omega
    have G4:BoxA W3 (w.heap.size+1+1+1+1) 120 #[.int .i64 x.1.r.bor,.int .i64 (-1)]:=by rw [← hW3];exact ((g4.set 0 _).set 1 _).other n45 _
    have G5:BoxA W3 (w.heap.size+1+1+1+1+1) 3 #[.int .i64 x.1.r.day]:=by rw [← hW3];exact ((g5.other n54 _).other n54 _).set 0 _
    have n34:(w.heap.size+1+1+1)≠(w.heap.size+1+1+1+1):=by omega
    have n35:(w.heap.size+1+1+1)≠(w.heap.size+1+1+1+1+1):=by omega
    have G3:BoxA W3 (w.heap.size+1+1+1) 120 #[.int .i64 0,.int .i64 0]:=by rw [← hW3];exact ((g3.other n34 _).other n34 _).other n35 _
    have nX4:Bx≠(w.heap.size+1+1+1+1):=by omega
    have nX5:Bx≠(w.heap.size+1+1+1+1+1):=by omega
    have GX:BoxA W3 Bx 79 #[.int .i64 x.1.r.src,.int .i64 x.1.r.bor,.int .i64 x.1.r.pap,.slice x.1.A x.1.n x.1.c,.int .i64 x.1.r.day,.int .i64 x.1.r.kn,.int .i64 x.1.r.un]:=by rw [← hW3];exact ((bX.other nX4 _).other nX4 _).other nX5 _
    have l4:w.heap.size≤(w.heap.size+1+1+1+1):=by omega
    have l5:w.heap.size≤(w.heap.size+1+1+1+1+1):=by omega
    have GB:Below w.heap.size w W3:=by rw [← hW3];exact (((gB.setCell l4 _).setCell l4 _).setCell l5 _).drew
    gi_wp2
    refine wpIn_named2 fun f1 V1 hf1 hV1=>?_
    refine wpIn_cut (fun a' W'=>a'={ tmps:=((((f1.tmps.setIfInBounds 27 (.pointer (some ⟨Bx,1,none⟩))).setIfInBounds 28 (.int .i64 x.1.r.bor)).setIfInBounds 29 (.agg #[.int .i64 x.1.r.bor,.int .i64 (-1)])).setIfInBounds 30 (.pointer (some ⟨Bx,4,none⟩))).setIfInBounds 31 (.int .i64 x.1.r.day),defers:=[] }∧W'=W3) ?reg ?rest
    case reg =>
     rw [← hW3]
     subst hf1
     subst hV1
     clear KO3 KP3 G4 G5 G3 GX GB hW3
     gi_region
     all_goals exact ⟨rfl,rfl⟩
    case rest =>
     clear g4 g5 g3 c4 c5 cX hW3 f4 f5 hV1 bX z4 z5 zX
     subst hf1
     rintro a' W' ⟨rfl,rfl⟩
     simp only [List.setIfInBounds_toArray,List.set_cons_zero,List.set_cons_succ]
     have hlk:=(HM.out.keep (w':=W') (GB.block bm HM.out.lt)).look2 key_slips Tryz.underlying112 (a:=(x.1.r.src,leaf)) ⟨xw,hwl⟩ (zeroInt2 _)
     rw [getG_enc] at hlk
     have d0:=(KP3.cell (b:=w.heap.size) (.inr (.inl rfl)) 7).trans c0
     have d1:=(KP3.cell (b:=(w.heap.size+1)) (.inr (.inr (.inl rfl))) 1).trans c1
     have cX:=GX.cell
     have c4:=G4.cell
     have z4:=G4.lt
     have zX:=GX.lt
     clear c0 c1 c2
     have f4:∀ j,W'.frozen? ⟨(w.heap.size+1+1+1+1),j,none⟩=false:=fun j=>by simp [World.frozen?,show W'.heap[(w.heap.size+1+1+1+1)]?=_ from G4]
     cases hg:getN M (x.1.r.src,leaf) with
     | none =>
       have HF:Hid (stayStep M leaf day (sp,sb,sl) x.1.r=(x.1.r.bor,-1,x.1.r.day)):=by show _=_;rw [stayStep,if_neg (show ¬ (day<x.1.r.day∨x.1.r.day≤sl) from by omega)];simp [backI,hg]
       rw [hg] at hlk
       simp only [Option.map_none,Option.getD_none,Option.isSome_none] at hlk
       clear hg
       gi_wp2
       exact ⟨KO3.from _,KP3,⟨⟨by rw [staySI_snoc,HST.out,HF.out];exact G4,by rw [staySI_snoc,HST.out,HF.out];exact G5,G3⟩,gK.trans KP3,GB⟩⟩
     | some i =>
       have HF:Hid (stayStep M leaf day (sp,sb,sl) x.1.r=(x.1.r.bor,(i:Int),x.1.r.day)):=by show _=_;rw [stayStep,if_neg (show ¬ (day<x.1.r.day∨x.1.r.day≤sl) from by omega)];simp [backI,hg]
       rw [hg] at hlk
       simp only [Option.map_some,Option.getD_some,Option.isSome_some] at hlk
       clear hg
       gi_wp2
       exact ⟨(KO3.trans (KeepsOthers.setCell _ _ _)).from _,KP3.trans (KeepP.setCell _ _ k1),⟨⟨by rw [staySI_snoc,HST.out,HF.out];exact G4.set 1 _,by rw [staySI_snoc,HST.out,HF.out];exact G5.other n54 _,G3.other n34 _⟩,gK.trans (KP3.trans (KeepP.setCell _ _ k1)),GB.setCell l4 _⟩⟩
 case done =>
  subst ha0
  rintro D ys W hD hys ⟨⟨g4,g5,g3⟩,gK,gB⟩ hK
  have c4:=g4.cell
  have c3:=g3.cell
  have z4:=g4.lt
  have z3:=g3.lt
  have f3:∀ j,W.frozen? ⟨(w.heap.size+1+1+1),j,none⟩=false:=fun j=>by simp [World.frozen?,show W.heap[(w.heap.size+1+1+1)]?=_ from g3]
  gi_wp2
  obtain ⟨W2,hW2⟩:∃ W2,(W.setCell ⟨(w.heap.size+1+1+1),0,none⟩ (.int .i64 (staySI M day ys).1)).setCell ⟨(w.heap.size+1+1+1),1,none⟩ (.int .i64 (staySI M day ys).2.1)=W2:=⟨_,rfl⟩
  have hB2:Below w.heap.size w W2:=by rw [← hW2];exact (gB.setCell (by simp only;omega) _).setCell (by simp only;omega) _
  have hK2:W2.heap[D]?=some (.deferred (some [])):=by rw [← hW2];exact (Below.heap_setCell _ _ _ _ (by simp only;omega)).trans ((Below.heap_setCell _ _ _ _ (by simp only;omega)).trans hK)
  have g32:BoxA W2 (w.heap.size+1+1+1) 120 #[.int .i64 (staySI M day ys).1,.int .i64 (staySI M day ys).2.1]:=by rw [← hW2];exact (g3.set 0 _).set 1 _
  rw [hW2]
  clear hW2
  have g33:BoxA (W2.putObj D (.deferred none)) (w.heap.size+1+1+1) 120 #[.int .i64 (staySI M day ys).1,.int .i64 (staySI M day ys).2.1]:=(World.putObj_heap_other (by omega)).trans g32
  have c33:=g33.cell
  refine ⟨by simp,.inl ⟨_,_,rfl,run_takeDeferred hK2,?_⟩⟩
  refine ⟨.agg #[.int .i64 (staySI M day ys).1,.int .i64 (staySI M day ys).2.1],?_,?_,hB2.trans (belowK_b (w:=w) lr_ W2 D _ _ (by omega) hK2 rfl rfl)⟩
  ·simp [results,Tryz.f68,go_sem]
   try go_simp
  ·rw [← hys,List.map_map];rfl
 case stop =>
  rintro D c pre W _ _ h _
  exact h.elim
end Go.Proofs.YtmcmbicapdcfmaaGreat
