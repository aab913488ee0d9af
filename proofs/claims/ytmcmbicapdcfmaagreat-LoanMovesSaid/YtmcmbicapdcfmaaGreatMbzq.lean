/- Layer 2 of the texts that LoanMoves takes: Mbzq. -/
import Derived.Test.YtmcmbicapdcfmaaGreatMbuq
import Derived.Test.YtmcmbicapdcfmaaGreatMbvq
import Derived.Test.YtmcmbicapdcfmaaGreatMbxq
import Derived.Test.YtmcmbicapdcfmaaGreatMbtq
set_option linter.unusedVariables false
set_option linter.unusedSimpArgs false
set_option maxHeartbeats 16000000
namespace Go.Proofs.YtmcmbicapdcfmaaGreat
open Go.RowKit Go.Maps
def RetK (xs:List Int) (n:Nat) (w:World) (e:Ending) (w':World):Prop:=∃ A c,e=.returned (.tuple #[.slice A n c,.int .i64 0])∧Below w.heap.size w w'∧Is w' w'.heap.size A n xs
theorem RetLE.k {xs:List Int} {n:Nat} {w w':World} {e:Ending} (hn:xs.length=n) (h:RetLE (xs,0) w e w'):RetK xs n w e w':=by
 obtain ⟨A,m,c,rfl,hb,hi,_,_⟩:=h
 have h1:xs.length=m:=hi.len
 obtain rfl:m=n:=by omega
 exact ⟨A,c,rfl,hb,hi⟩
def RetKF (xs:List (Int × Int)) (n:Nat) (w:World) (e:Ending) (w':World):Prop:=∃ A c,e=.returned (.tuple #[.slice A n c,.int .i64 0])∧Below w.heap.size w w'∧Sq QF 2 w' w'.heap.size A n xs
theorem RetFE.k {xs:List (Int × Int)} {n:Nat} {w w':World} {e:Ending} (hn:xs.length=n) (h:RetFE (xs,0) w e w'):RetKF xs n w e w':=by
 obtain ⟨A,m,c,rfl,hb,hi,hm⟩:=h
 have h1:xs.length=m:=hm
 obtain rfl:m=n:=by omega
 exact ⟨A,c,rfl,hb,sq_of_own hi hm⟩
theorem s_Double (x:Lsl) (w:World) (hf:x.fit) (hd:LedIn w w.heap.size x exL2) :
 Calls Tryz.prog 28 #[.agg #[.slice x.pA x.pn x.pc,.slice x.rA x.rn x.rc,.slice x.tA x.tn x.tc,.slice x.sA x.sn x.sc],.int .i64 50] w (RetK [10,11] 2 w):=by
 have h:=p_Double exL2 x 50 w hf hd
 rw [ex2_double] at h
 exact h.mono fun _ _ h=>h.k rfl
theorem s_Days (x:Lsl) (w:World) (hf:x.fit) (hd:LedIn w w.heap.size x exL2) :
 Calls Tryz.prog 25 #[.agg #[.slice x.pA x.pn x.pc,.slice x.rA x.rn x.rc,.slice x.tA x.tn x.tc,.slice x.sA x.sn x.sc],.int .i64 20,.int .i64 70] w (fun e w'=>e=.returned (.tuple #[.agg #[.int .i64 26,.int .i64 40],.int .i64 0])∧Below w.heap.size w w'):=by
 have h:=p_Days2 exL2 x 20 70 w hf hd
 rw [ex2_days] at h
 exact h
theorem s_Clash (x:Lsl) (w:World) (hf:x.fit) (hd:LedIn w w.heap.size x exL2) :
 Calls Tryz.prog 29 #[.agg #[.slice x.pA x.pn x.pc,.slice x.rA x.rn x.rc,.slice x.tA x.tn x.tc,.slice x.sA x.sn x.sc],.int .i64 80] w (RetK [30,31] 2 w):=by
 have h:=p_Clash exL2 x 80 w hf hd
 rw [ex2_clash] at h
 exact h.mono fun _ _ h=>h.k rfl
theorem s_Where (x:Lsl) (w:World) (hf:x.fit) (hd:LedIn w w.heap.size x exL2) :
 Calls Tryz.prog 17 #[.agg #[.slice x.pA x.pn x.pc,.slice x.rA x.rn x.rc,.slice x.tA x.tn x.tc,.slice x.sA x.sn x.sc],.agg #[.int .i64 1,.int .i64 1],.int .i64 24,.int .i64 60] w (RetK [0,5] 2 w):=by
 have h:=p_WhereX exL2 x 1 1 24 60 w hf hd (by decide)
 rw [ex2_where] at h
 exact h.mono fun _ _ h=>h.k rfl
theorem s_Whole (x:Lsl) (w:World) (hf:x.fit) (hd:LedIn w w.heap.size x exL2) :
 Calls Tryz.prog 34 #[.agg #[.slice x.pA x.pn x.pc,.slice x.rA x.rn x.rc,.slice x.tA x.tn x.tc,.slice x.sA x.sn x.sc],.int .i64 1,.int .i64 30,.int .i64 60] w (fun e w'=>e=.returned (.tuple #[.int .i64 2,.int .i64 0])∧Below w.heap.size w w'):=by
 have h:=p_WholeX exL2 x 1 30 60 w hf hd
 rw [ex2_whole] at h
 exact h
theorem s_Lies (x:Lsl) (w:World) (hf:x.fit) (hd:LedIn w w.heap.size x exL2) :
 Calls Tryz.prog 35 #[.agg #[.slice x.pA x.pn x.pc,.slice x.rA x.rn x.rc,.slice x.tA x.tn x.tc,.slice x.sA x.sn x.sc],.int .i64 10,.int .i64 40,.int .i64 60] w (fun e w'=>e=.returned (.tuple #[.int .i64 0,.int .i64 0])∧Below w.heap.size w w'):=by
 have h:=p_Lies exL2 x 10 40 60 w hf hd
 rw [ex2_lies] at h
 exact h
theorem s_Has (x:Lsl) (w:World) (hf:x.fit) (hd:LedIn w w.heap.size x exL2) :
 Calls Tryz.prog 15 #[.agg #[.slice x.pA x.pn x.pc,.slice x.rA x.rn x.rc,.slice x.tA x.tn x.tc,.slice x.sA x.sn x.sc],.int .i64 5,.int .i64 19,.int .i64 60] w (RetKF [(1,1),(1,2)] 2 w):=by
 have h:=p_HasX exL2 x 5 19 60 w hf hd
 rw [ex2_has] at h
 exact h.mono fun _ _ h=>h.k rfl
theorem s_Moved (x:Lsl) (w:World) (hf:x.fit) (hd:LedIn w w.heap.size x exL2) :
 Calls Tryz.prog 36 #[.agg #[.slice x.pA x.pn x.pc,.slice x.rA x.rn x.rc,.slice x.tA x.tn x.tc,.slice x.sA x.sn x.sc],.int .i64 20,.int .i64 30,.int .i64 60] w (RetKF [(1,1),(1,2),(1,3),(2,1)] 4 w):=by
 have h:=p_MovedX exL2 x 20 30 60 w hf hd
 rw [ex2_moved] at h
 exact h.mono fun _ _ h=>h.k rfl
theorem s_Placed (x:Lsl) (D:Option Addr) (c0:Nat) (w:World) (hf:x.fit) (hd:LedIn w w.heap.size x exL2) (hy:Is w w.heap.size D 2 [25,30]) :
 Calls Tryz.prog 14 #[.agg #[.slice x.pA x.pn x.pc,.slice x.rA x.rn x.rc,.slice x.tA x.tn x.tc,.slice x.sA x.sn x.sc],.slice D 2 c0,.int .i64 1,.int .i64 27,.int .i64 60] w (RetK [0,0,5] 3 w):=by
 have h:=p_PlacedX exL2 x [25,30] D 2 c0 1 27 60 w hf hd (by decide) hy
 rw [ex2_placed] at h
 exact h.mono fun _ _ h=>h.k rfl
theorem s_True (x:Lsl) (D:Option Addr) (c0:Nat) (w:World) (hf:x.fit) (hd:LedIn w w.heap.size x exL2) (hy:Is w w.heap.size D 2 [41,11]) :
 Calls Tryz.prog 13 #[.agg #[.slice x.pA x.pn x.pc,.slice x.rA x.rn x.rc,.slice x.tA x.tn x.tc,.slice x.sA x.sn x.sc],.int .i64 60,.slice D 2 c0] w (fun e w'=>e=.returned (.int .i64 29)∧Below w.heap.size w w'):=by
 have h:=p_CheckTrue exL2 x 60 [41,11] D 2 c0 w hf hd (by decide) hy
 rw [ex2_true] at h
 exact h
set_option maxRecDepth 100000 in
theorem r_sane2 (w:World) :
 Calls Tryz.prog 21 #[] w fun e w'=>e=.returned (.bool true)∧Below w.heap.size w w':=by
 go_enter Tryz.func21,Tryz.ntmps21
 go_wp2_with fail
 refine (r_ledger _).mono ?_
 rintro e w1 ⟨⟨pA,pn,pc,rA,rn,rc,tA,tn,tc,sA,sn,sc⟩,rfl,hb1,hf,hd1⟩
 have HB1:Below w.heap.size w w1:=hb1
 have HD:=hd_ hd1
 have HF:=hd_ hf
 have bL:=BoxA.new w1 32 #[.slice pA pn pc,.slice rA rn rc,.slice tA tn tc,.slice sA sn sc]
 clear hd1 hb1 hf
 go_wp2_with fail
 refine (s_Double ⟨pA,pn,pc,rA,rn,rc,tA,tn,tc,sA,sn,sc⟩ _ HF.out (HD.out.now (by exact bel_))).mono ?_
 rintro e w2 ⟨A2,c2,rfl,hb,hi⟩
 have HQ:Below w1.heap.size w1 w2:=bt_ (by exact bel_) hb
 have HB2:Below w.heap.size w w2:=bt_ HB1 HQ
 replace HD:=hd_ (HD.out.now HQ)
 replace bL:=bL.ext hb
 have kL:=bL.cell
 have zL:=bL.lt
 have J2:=hd_ hi
 clear hi
 clear hb HB1 HQ
 go_wp2_with fail
 refine (s_Days ⟨pA,pn,pc,rA,rn,rc,tA,tn,tc,sA,sn,sc⟩ _ HF.out (HD.out.now (by exact bel_))).mono ?_
 rintro e w3 ⟨rfl,hb⟩
 have HQ:Below w2.heap.size w2 w3:=bt_ (by exact bel_) hb
 have HB3:Below w.heap.size w w3:=bt_ HB2 HQ
 replace HD:=hd_ (HD.out.now HQ)
 replace bL:=bL.ext HQ
 replace kL:=bL.cell
 replace zL:=bL.lt
 replace J2:=hd_ (J2.out.now HQ)
 clear hb HB2 HQ
 go_wp2_with fail
 refine (s_Clash ⟨pA,pn,pc,rA,rn,rc,tA,tn,tc,sA,sn,sc⟩ _ HF.out (HD.out.now (by exact bel_))).mono ?_
 rintro e w4 ⟨A4,c4,rfl,hb,hi⟩
 have HQ:Below w3.heap.size w3 w4:=bt_ (by exact bel_) hb
 have HB4:Below w.heap.size w w4:=bt_ HB3 HQ
 replace HD:=hd_ (HD.out.now HQ)
 replace bL:=bL.ext HQ
 replace kL:=bL.cell
 replace zL:=bL.lt
 replace J2:=hd_ (J2.out.now HQ)
 have bR:=(BoxA.new w3 61 #[.int .i64 26,.int .i64 40]).ext hb
 have r0:=bR.cell 0
 have r1:=bR.cell 1
 have zR:=bR.lt
 have J4:=hd_ hi
 clear hi
 clear hb HB3 HQ
 go_wp2_with fail
 refine (s_Where ⟨pA,pn,pc,rA,rn,rc,tA,tn,tc,sA,sn,sc⟩ _ HF.out (HD.out.now (by exact bel_))).mono ?_
 rintro e w5 ⟨A5,c5,rfl,hb,hi⟩
 have HQ:Below w4.heap.size w4 w5:=bt_ (by exact bel_) hb
 have HB5:Below w.heap.size w w5:=bt_ HB4 HQ
 replace HD:=hd_ (HD.out.now HQ)
 replace bL:=bL.ext HQ
 replace kL:=bL.cell
 replace zL:=bL.lt
 replace J2:=hd_ (J2.out.now HQ)
 replace bR:=bR.ext HQ
 replace r0:=bR.cell 0
 replace r1:=bR.cell 1
 replace zR:=bR.lt
 replace J4:=hd_ (J4.out.now HQ)
 have J5:=hd_ hi
 clear hi
 clear hb HB4 HQ
 go_wp2_with fail
 refine (s_Whole ⟨pA,pn,pc,rA,rn,rc,tA,tn,tc,sA,sn,sc⟩ _ HF.out (HD.out.now (by exact bel_))).mono ?_
 rintro e w6 ⟨rfl,hb⟩
 have HQ:Below w5.heap.size w5 w6:=bt_ (by exact bel_) hb
 have HB6:Below w.heap.size w w6:=bt_ HB5 HQ
 replace HD:=hd_ (HD.out.now HQ)
 replace bL:=bL.ext HQ
 replace kL:=bL.cell
 replace zL:=bL.lt
 replace J2:=hd_ (J2.out.now HQ)
 replace bR:=bR.ext HQ
 replace r0:=bR.cell 0
 replace r1:=bR.cell 1
 replace zR:=bR.lt
 replace J4:=hd_ (J4.out.now HQ)
 replace J5:=hd_ (J5.out.now HQ)
 clear hb HB5 HQ
 go_wp2_with fail
 refine (s_Lies ⟨pA,pn,pc,rA,rn,rc,tA,tn,tc,sA,sn,sc⟩ _ HF.out (HD.out.now (by exact bel_))).mono ?_
 rintro e w7 ⟨rfl,hb⟩
 have HQ:Below w6.heap.size w6 w7:=bt_ (by exact bel_) hb
 have HB7:Below w.heap.size w w7:=bt_ HB6 HQ
 replace HD:=hd_ (HD.out.now HQ)
 replace bL:=bL.ext HQ
 replace kL:=bL.cell
 replace zL:=bL.lt
 replace J2:=hd_ (J2.out.now HQ)
 replace bR:=bR.ext HQ
 replace r0:=bR.cell 0
 replace r1:=bR.cell 1
 replace zR:=bR.lt
 replace J4:=hd_ (J4.out.now HQ)
 replace J5:=hd_ (J5.out.now HQ)
 clear hb HB6 HQ
 go_wp2_with fail
 refine (s_Has ⟨pA,pn,pc,rA,rn,rc,tA,tn,tc,sA,sn,sc⟩ _ HF.out (HD.out.now (by exact bel_))).mono ?_
 rintro e w8 ⟨A8,c8,rfl,hb,hi⟩
 have HQ:Below w7.heap.size w7 w8:=bt_ (by exact bel_) hb
 have HB8:Below w.heap.size w w8:=bt_ HB7 HQ
 replace HD:=hd_ (HD.out.now HQ)
 replace bL:=bL.ext HQ
 replace kL:=bL.cell
 replace zL:=bL.lt
 replace J2:=hd_ (J2.out.now HQ)
 replace bR:=bR.ext HQ
 replace r0:=bR.cell 0
 replace r1:=bR.cell 1
 replace zR:=bR.lt
 replace J4:=hd_ (J4.out.now HQ)
 replace J5:=hd_ (J5.out.now HQ)
 have J8:=hd_ hi
 clear hi
 clear hb HB7 HQ
 go_wp2_with fail
 refine (s_Placed ⟨pA,pn,pc,rA,rn,rc,tA,tn,tc,sA,sn,sc⟩ _ _ _ HF.out (HD.out.now (by exact bel_)) (Rd.new _ #[.int .i64 25,.int .i64 30] _ 1 2 _ (by simp) rfl)).mono ?_
 rintro e w9 ⟨A9,c9,rfl,hb,hi⟩
 have HQ:Below w8.heap.size w8 w9:=bt_ (by exact bel_) hb
 have HB9:Below w.heap.size w w9:=bt_ HB8 HQ
 replace HD:=hd_ (HD.out.now HQ)
 replace bL:=bL.ext HQ
 replace kL:=bL.cell
 replace zL:=bL.lt
 replace J2:=hd_ (J2.out.now HQ)
 replace bR:=bR.ext HQ
 replace r0:=bR.cell 0
 replace r1:=bR.cell 1
 replace zR:=bR.lt
 replace J4:=hd_ (J4.out.now HQ)
 replace J5:=hd_ (J5.out.now HQ)
 replace J8:=hd_ (J8.out.now abF HQ)
 have J9:=hd_ hi
 clear hi
 clear hb HB8 HQ
 go_wp2_with fail
 refine (s_Moved ⟨pA,pn,pc,rA,rn,rc,tA,tn,tc,sA,sn,sc⟩ _ HF.out (HD.out.now (by exact bel_))).mono ?_
 rintro e w10 ⟨A10,c10,rfl,hb,hi⟩
 have HQ:Below w9.heap.size w9 w10:=bt_ (by exact bel_) hb
 have HB10:Below w.heap.size w w10:=bt_ HB9 HQ
 replace HD:=hd_ (HD.out.now HQ)
 replace bL:=bL.ext HQ
 replace kL:=bL.cell
 replace zL:=bL.lt
 replace J2:=hd_ (J2.out.now HQ)
 replace bR:=bR.ext HQ
 replace r0:=bR.cell 0
 replace r1:=bR.cell 1
 replace zR:=bR.lt
 replace J4:=hd_ (J4.out.now HQ)
 replace J5:=hd_ (J5.out.now HQ)
 replace J8:=hd_ (J8.out.now abF HQ)
 replace J9:=hd_ (J9.out.now HQ)
 clear hi
 clear hb HB9 HQ
 go_wp2_with fail
 refine (r_Same2 [10,11] [10,11] true _ _ 2 _ 2 _ _ (by decide) (by decide) (J2.out.now (by exact bel_)) (Rd.new _ #[.int .i64 10,.int .i64 11] _ 1 2 _ (by simp) rfl) (by decide)).mono ?_
 rintro e w11 ⟨rfl,hb⟩
 have HQ:Below w10.heap.size w10 w11:=bt_ (by exact bel_) hb
 have HB11:Below w.heap.size w w11:=bt_ HB10 HQ
 replace HD:=hd_ (HD.out.now HQ)
 replace bL:=bL.ext HQ
 replace kL:=bL.cell
 replace zL:=bL.lt
 replace bR:=bR.ext HQ
 replace r0:=bR.cell 0
 replace r1:=bR.cell 1
 replace zR:=bR.lt
 replace J4:=hd_ (J4.out.now HQ)
 replace J5:=hd_ (J5.out.now HQ)
 replace J8:=hd_ (J8.out.now abF HQ)
 replace J9:=hd_ (J9.out.now HQ)
 clear hb HB10 HQ
 go_wp2_with fail
 refine (r_Same2 [30,31] [30,31] true _ _ 2 _ 2 _ _ (by decide) (by decide) (J4.out.now (by exact bel_)) (Rd.new _ #[.int .i64 30,.int .i64 31] _ 1 2 _ (by simp) rfl) (by decide)).mono ?_
 rintro e w12 ⟨rfl,hb⟩
 have HQ:Below w11.heap.size w11 w12:=bt_ (by exact bel_) hb
 have HB12:Below w.heap.size w w12:=bt_ HB11 HQ
 replace HD:=hd_ (HD.out.now HQ)
 replace bL:=bL.ext HQ
 replace kL:=bL.cell
 replace zL:=bL.lt
 replace J5:=hd_ (J5.out.now HQ)
 replace J8:=hd_ (J8.out.now abF HQ)
 replace J9:=hd_ (J9.out.now HQ)
 clear hb HB11 HQ
 go_wp2_with fail
 refine (r_Same2 [0,5] [0,5] true _ _ 2 _ 2 _ _ (by decide) (by decide) (J5.out.now (by exact bel_)) (Rd.new _ #[.int .i64 0,.int .i64 5] _ 1 2 _ (by simp) rfl) (by decide)).mono ?_
 rintro e w13 ⟨rfl,hb⟩
 have HQ:Below w12.heap.size w12 w13:=bt_ (by exact bel_) hb
 have HB13:Below w.heap.size w w13:=bt_ HB12 HQ
 replace HD:=hd_ (HD.out.now HQ)
 replace bL:=bL.ext HQ
 replace kL:=bL.cell
 replace zL:=bL.lt
 replace J8:=hd_ (J8.out.now abF HQ)
 replace J9:=hd_ (J9.out.now HQ)
 clear hb HB12 HQ
 go_wp2_with fail
 refine (r_SameFols [(1,1),(1,2)] [(1,1),(1,2)] true _ _ 2 _ 2 _ _ (by decide) (by decide) (J8.out.now abF (by exact bel_)) ((BoxA.new _ 48 #[.int .i64 1,.int .i64 1,.int .i64 1,.int .i64 2]).sqF (P:=[(1,1),(1,2)]) rfl (by simp)) (by decide)).mono ?_
 rintro e w14 ⟨rfl,hb⟩
 have HQ:Below w13.heap.size w13 w14:=bt_ (by exact bel_) hb
 have HB14:Below w.heap.size w w14:=bt_ HB13 HQ
 replace HD:=hd_ (HD.out.now HQ)
 replace bL:=bL.ext HQ
 replace kL:=bL.cell
 replace zL:=bL.lt
 replace J9:=hd_ (J9.out.now HQ)
 clear hb HB13 HQ
 go_wp2_with fail
 refine (r_Same2 [0,0,5] [0,0,5] true _ _ 3 _ 3 _ _ (by decide) (by decide) (J9.out.now (by exact bel_)) (Rd.new _ #[.int .i64 0,.int .i64 0,.int .i64 5] _ 1 3 _ (by simp) rfl) (by decide)).mono ?_
 rintro e w15 ⟨rfl,hb⟩
 have HQ:Below w14.heap.size w14 w15:=bt_ (by exact bel_) hb
 have HB15:Below w.heap.size w w15:=bt_ HB14 HQ
 replace HD:=hd_ (HD.out.now HQ)
 replace bL:=bL.ext HQ
 replace kL:=bL.cell
 replace zL:=bL.lt
 clear hb HB14 HQ
 go_wp2_with fail
 refine (s_True ⟨pA,pn,pc,rA,rn,rc,tA,tn,tc,sA,sn,sc⟩ _ _ _ HF.out (HD.out.now (by exact bel_)) (Rd.new _ #[.int .i64 41,.int .i64 11] _ 1 2 _ (by simp) rfl)).mono ?_
 rintro e w16 ⟨rfl,hb⟩
 have HQ:Below w15.heap.size w15 w16:=bt_ (by exact bel_) hb
 have HB16:Below w.heap.size w w16:=bt_ HB15 HQ
 replace HD:=hd_ (HD.out.now HQ)
 replace bL:=bL.ext HQ
 replace kL:=bL.cell
 replace zL:=bL.lt
 clear hb HB15 HQ
 go_wp2_with fail
 go_ret
 exact ⟨rfl,HB16⟩
theorem p_WhereM (l:Led) (x:Lsl) (pap leaf day kn:Int) (p:List Int) (v:Int) (w:World) (hf:x.fit) (hd:LedIn w w.heap.size x l) (hwl:(Lit.int .i64 leaf).wf=true) (h:whereX l pap leaf day kn=(p,v)) :
 Calls Tryz.prog 17 #[.agg #[.slice x.pA x.pn x.pc,.slice x.rA x.rn x.rc,.slice x.tA x.tn x.tc,.slice x.sA x.sn x.sc],.agg #[.int .i64 pap,.int .i64 leaf],.int .i64 day,.int .i64 kn] w (RetLE (p,v) w):=h ▸ p_WhereX l x pap leaf day kn w hf hd hwl
theorem cnt_late {a b k:Int} (h:k<a):countsB a b k=false:=by
 rw [countsB,decide_eq_false (by omega)]
 rfl
theorem find_uni {α:Type} {f:α→Int}:∀ {l:List α},(l.Pairwise fun x y=>f x<f y)→∀ {x:α},x∈l→l.find? (fun r=>f r == f x)=some x
 | [],_,x,h=>by cases h
 | y :: l,hp,x,h=>by
   rw [List.pairwise_cons] at hp
   rcases List.mem_cons.1 h with rfl | h
   ·simp
   ·have hne:(f y == f x)=false:=by have:=hp.1 x h;simp;omega
    rw [List.find?_cons,hne]
    exact find_uni hp.2 h
theorem cnt_none {d:Int} {l:Led} {days:List Int} (h:MkOk d l days) {src kn:Int} (hk:kn<cntOf l src) :
 (∀ r∈l.rc,r.src=src→countsB r.kn r.un kn=false)∧(∀ t∈l.rt,t.src=src→countsB t.kn t.un kn=false)∧(∀ s∈l.sg,s.src=src→countsB s.kn s.un kn=false):=by
 have hr:l.rc.Pairwise fun x y=>x.src<y.src:=idx_up (a:=3) (b:=1) (by decide) fun k r hr=>(h.rc k r hr).src
 have ht:l.rt.Pairwise fun x y=>x.src<y.src:=idx_up (a:=3) (b:=2) (by decide) fun k t ht=>by obtain ⟨y,-,hy⟩:=h.rt k t ht;exact hy.src
 have hs:l.sg.Pairwise fun x y=>x.src<y.src:=idx_up (a:=3) (b:=3) (by decide) fun k s hs=>(h.sg k s hs).src
 have m1:∀ r∈l.rc,r.src % 3=1:=idx_all fun k r hr=>by have:=(h.rc k r hr).src;omega
 have m2:∀ t∈l.rt,t.src % 3=2:=idx_all fun k t ht=>by obtain ⟨y,-,hy⟩:=h.rt k t ht;have:=hy.src;omega
 have m3:∀ s∈l.sg,s.src % 3=0:=idx_all fun k s hs=>by have:=(h.sg k s hs).src;omega
 refine ⟨fun r hr' e=>?_,fun t ht' e=>?_,fun s hs' e=>?_⟩
 ·subst e
  rw [cntOf,find_uni hr hr'] at hk
  exact cnt_late hk
 ·subst e
  have n1:l.rc.find? (fun r=>r.src == t.src)=none:=by
   rw [List.find?_eq_none]
   intro r hr'
   have:=m1 r hr'
   have:=m2 t ht'
   simp
   omega
  rw [cntOf,n1] at hk
  dsimp only at hk
  rw [find_uni ht ht'] at hk
  exact cnt_late hk
 ·subst e
  have n1:l.rc.find? (fun r=>r.src == s.src)=none:=by
   rw [List.find?_eq_none]
   intro r hr'
   have:=m1 r hr'
   have:=m3 s hs'
   simp
   omega
  have n2:l.rt.find? (fun r=>r.src == s.src)=none:=by
   rw [List.find?_eq_none]
   intro r hr'
   have:=m2 r hr'
   have:=m3 s hs'
   simp
   omega
  rw [cntOf,n1] at hk
  dsimp only at hk
  rw [n2] at hk
  dsimp only at hk
  rw [find_uni hs hs'] at hk
  exact cnt_late hk
theorem filt_lt {α:Type} {p:α→Bool}:∀ {l:List α},(l.filter p).length=l.length→∀ x∈l,p x=true
 | [],_,x,h=>by cases h
 | y :: l,h,x,hx=>by
   have hle:=List.length_filter_le p l
   cases hp:p y with
   | false=>rw [List.filter_cons_of_neg (by simp [hp])] at h;simp at h;omega
   | true =>
     rw [List.filter_cons_of_pos hp] at h
     simp at h
     rcases List.mem_cons.1 hx with rfl | hx
     ·exact hp
     ·exact filt_lt (by simpa using h) x hx
theorem there_iff {l:Led} {src:Int}:(excL l src).rc.length+(excL l src).rt.length+(excL l src).sg.length<l.rc.length+l.rt.length+l.sg.length↔src∈srcL l:=by
 have h1:(excL l src).rc.length≤l.rc.length:=List.length_filter_le _ _
 have h2:(excL l src).rt.length≤l.rt.length:=List.length_filter_le _ _
 have h3:(excL l src).sg.length≤l.sg.length:=List.length_filter_le _ _
 constructor
 ·intro h
  refine Classical.byContradiction fun hn=>?_
  simp only [srcL,List.mem_append,List.mem_map,not_or,not_exists,not_and] at hn
  obtain ⟨n1,n2,n3⟩:=hn
  have e1:(excL l src).rc=l.rc:=List.filter_eq_self.2 fun r hr=>by simpa using n1 r hr
  have e2:(excL l src).rt=l.rt:=List.filter_eq_self.2 fun r hr=>by simpa using n2 r hr
  have e3:(excL l src).sg=l.sg:=List.filter_eq_self.2 fun r hr=>by simpa using n3 r hr
  rw [e1,e2,e3] at h
  omega
 ·intro h
  refine Classical.byContradiction fun hn=>?_
  have e1:(l.rc.filter fun r=>!(r.src == src)).length=l.rc.length:=by have:(excL l src).rc.length=l.rc.length:=by omega
                                                                      exact this
  have e2:(l.rt.filter fun r=>!(r.src == src)).length=l.rt.length:=by have:(excL l src).rt.length=l.rt.length:=by omega
                                                                      exact this
  have e3:(l.sg.filter fun r=>!(r.src == src)).length=l.sg.length:=by have:(excL l src).sg.length=l.sg.length:=by omega
                                                                      exact this
  simp only [srcL,List.mem_append,List.mem_map] at h
  rcases h with ⟨r,hr,e⟩ | ⟨r,hr,e⟩ | ⟨r,hr,e⟩
  ·have:=filt_lt e1 r hr;simp [e] at this
  ·have:=filt_lt e2 r hr;simp [e] at this
  ·have:=filt_lt e3 r hr;simp [e] at this
theorem fol_in {l:Led} {p:Ppr} {k:Nat} (hp:p∈l.pp) (h1:1≤k) (h2:(k:Int)≤p.lv):(p.id,(k:Int))∈folL l.pp:=by
 simp only [folL,List.mem_flatMap,ppFol,List.mem_map,List.mem_range]
 refine ⟨p,hp,k - 1,by omega,?_⟩
 congr 1
 omega
theorem mov_fol {l:Led} {src day kn:Int} {mv:List (Int × Int)} {me:Int} (hl:ledB l=true) (hd:daysOk [day,kn]=true) (hs:src∈srcL l) (hm:movX l src day kn=(mv,me)) {p:Ppr} {k:Nat} (hp:p∈l.pp) (h1:1≤k) (h2:(k:Int)≤p.lv) :
 me=0∧∃ aL ae bL be,whereX l p.id (k:Int) day kn=(aL,ae)∧whereX (excL l src) p.id (k:Int) day kn=(bL,be) ∧
  ((aL=bL∧be=ae∧decide ((p.id,(k:Int))∈mv)=false)∨(aL=bL∧(ae != be)=true∧decide ((p.id,(k:Int))∈mv)=true)∨(decide (aL=bL)=false∧decide ((p.id,(k:Int))∈mv)=true)):=by
 obtain ⟨g1,g2⟩:=mov_iff hl hd hs (fol_in hp h1 h2)
 rw [hm] at g1 g2
 refine ⟨g1,_,_,_,_,rfl,rfl,?_⟩
 dsimp only at g2
 by_cases hab:(whereX l p.id (k:Int) day kn).1=(whereX (excL l src) p.id (k:Int) day kn).1
 ·by_cases hg:(whereX l p.id (k:Int) day kn).2=(whereX (excL l src) p.id (k:Int) day kn).2
  ·exact .inl ⟨hab,hg.symm,decide_eq_false (g2.1 (Prod.ext hab.symm hg.symm))⟩
  ·exact .inr (.inl ⟨hab,bne_iff_ne.2 hg,decide_eq_true (Classical.byContradiction fun hn=>hg (congrArg Prod.snd (g2.2 hn)).symm)⟩)
 ·exact .inr (.inr ⟨decide_eq_false hab,decide_eq_true (Classical.byContradiction fun hn=>hab (congrArg Prod.fst (g2.2 hn)).symm)⟩)
theorem whereX_len {l:Led} {pap leaf day kn:Int} {p:List Int} {v:Int} (h:whereX l pap leaf day kn=(p,v)):p.length≤1000000:=by
 rw [whereX] at h
 split at h
 ·split at h
  ·cases h;have:=whL_len l kn day (pap,leaf);omega
  ·cases h;simp
 ·cases h;simp
theorem mov_gone {l:Led} {src day kn:Int} (hp:preE l [day,kn]=0) (hs:src ∉ srcL l):movX l src day kn=([],3):=by rw [movX,if_pos hp,if_neg hs]
end Go.Proofs.YtmcmbicapdcfmaaGreat
