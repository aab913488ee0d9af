/- Layer 2 of the texts that LoanBack takes: Bbuq. -/
import Derived.Test.YtmcmbicapdcfmaaGreatBbtq
import Derived.Test.YtmcmbicapdcfmaaGreatBbqq
set_option linter.unusedVariables false
set_option linter.unusedSimpArgs false
set_option maxHeartbeats 16000000
namespace Go.Proofs.YtmcmbicapdcfmaaGreat
open Go.RowKit Go.Maps
def RetK (xs:List Int) (n:Nat) (w:World) (e:Ending) (w':World):Prop:=∃ A c,e=.returned (.tuple #[.slice A n c,.int .i64 0])∧Below w.heap.size w w'∧Is w' w'.heap.size A n xs
theorem RetLE.k {xs:List Int} {n:Nat} {w w':World} {e:Ending} (hn:xs.length=n) (h:RetLE (xs,0) w e w'):RetK xs n w e w':=by
 obtain ⟨A,m,c,rfl,hb,hi,_,_⟩:=h
 have h1:xs.length=m:=hi.len
 obtain rfl:m=n:=by omega
 exact ⟨A,c,rfl,hb,hi⟩
def RetKF (xs:List (Int × Int)) (n:Nat) (w:World) (e:Ending) (w':World):Prop:=∃ A c,e=.returned (.tuple #[.slice A n c,.int .i64 0])∧Below w.heap.size w w'∧Sq QF 2 w' w'.heap.size A n xs
theorem RetFE.k {xs:List (Int × Int)} {n:Nat} {w w':World} {e:Ending} (hn:xs.length=n) (h:RetFE (xs,0) w e w'):RetKF xs n w e w':=by
 obtain ⟨A,m,c,rfl,hb,hi,hm⟩:=h
 have h1:xs.length=m:=hm
 obtain rfl:m=n:=by omega
 exact ⟨A,c,rfl,hb,sq_of_own hi hm⟩
theorem s_Double (x:Lsl) (w:World) (hf:x.fit) (hd:LedIn w w.heap.size x exL2) :
 Calls Tryz.prog 28 #[.agg #[.slice x.pA x.pn x.pc,.slice x.rA x.rn x.rc,.slice x.tA x.tn x.tc,.slice x.sA x.sn x.sc],.int .i64 50] w (RetK [10,11] 2 w):=by
 have h:=p_Double exL2 x 50 w hf hd
 rw [ex2_double] at h
 exact h.mono fun _ _ h=>h.k rfl
theorem s_Days (x:Lsl) (w:World) (hf:x.fit) (hd:LedIn w w.heap.size x exL2) :
 Calls Tryz.prog 25 #[.agg #[.slice x.pA x.pn x.pc,.slice x.rA x.rn x.rc,.slice x.tA x.tn x.tc,.slice x.sA x.sn x.sc],.int .i64 20,.int .i64 70] w (fun e w'=>e=.returned (.tuple #[.agg #[.int .i64 26,.int .i64 40],.int .i64 0])∧Below w.heap.size w w'):=by
 have h:=p_Days2 exL2 x 20 70 w hf hd
 rw [ex2_days] at h
 exact h
theorem s_Clash (x:Lsl) (w:World) (hf:x.fit) (hd:LedIn w w.heap.size x exL2) :
 Calls Tryz.prog 29 #[.agg #[.slice x.pA x.pn x.pc,.slice x.rA x.rn x.rc,.slice x.tA x.tn x.tc,.slice x.sA x.sn x.sc],.int .i64 80] w (RetK [30,31] 2 w):=by
 have h:=p_Clash exL2 x 80 w hf hd
 rw [ex2_clash] at h
 exact h.mono fun _ _ h=>h.k rfl
theorem s_Where (x:Lsl) (w:World) (hf:x.fit) (hd:LedIn w w.heap.size x exL2) :
 Calls Tryz.prog 17 #[.agg #[.slice x.pA x.pn x.pc,.slice x.rA x.rn x.rc,.slice x.tA x.tn x.tc,.slice x.sA x.sn x.sc],.agg #[.int .i64 1,.int .i64 1],.int .i64 24,.int .i64 60] w (RetK [0,5] 2 w):=by
 have h:=p_WhereX exL2 x 1 1 24 60 w hf hd (by decide)
 rw [ex2_where] at h
 exact h.mono fun _ _ h=>h.k rfl
theorem s_Whole (x:Lsl) (w:World) (hf:x.fit) (hd:LedIn w w.heap.size x exL2) :
 Calls Tryz.prog 34 #[.agg #[.slice x.pA x.pn x.pc,.slice x.rA x.rn x.rc,.slice x.tA x.tn x.tc,.slice x.sA x.sn x.sc],.int .i64 1,.int .i64 30,.int .i64 60] w (fun e w'=>e=.returned (.tuple #[.int .i64 2,.int .i64 0])∧Below w.heap.size w w'):=by
 have h:=p_WholeX exL2 x 1 30 60 w hf hd
 rw [ex2_whole] at h
 exact h
theorem s_Lies (x:Lsl) (w:World) (hf:x.fit) (hd:LedIn w w.heap.size x exL2) :
 Calls Tryz.prog 35 #[.agg #[.slice x.pA x.pn x.pc,.slice x.rA x.rn x.rc,.slice x.tA x.tn x.tc,.slice x.sA x.sn x.sc],.int .i64 10,.int .i64 40,.int .i64 60] w (fun e w'=>e=.returned (.tuple #[.int .i64 0,.int .i64 0])∧Below w.heap.size w w'):=by
 have h:=p_Lies exL2 x 10 40 60 w hf hd
 rw [ex2_lies] at h
 exact h
theorem s_Has (x:Lsl) (w:World) (hf:x.fit) (hd:LedIn w w.heap.size x exL2) :
 Calls Tryz.prog 15 #[.agg #[.slice x.pA x.pn x.pc,.slice x.rA x.rn x.rc,.slice x.tA x.tn x.tc,.slice x.sA x.sn x.sc],.int .i64 5,.int .i64 19,.int .i64 60] w (RetKF [(1,1),(1,2)] 2 w):=by
 have h:=p_HasX exL2 x 5 19 60 w hf hd
 rw [ex2_has] at h
 exact h.mono fun _ _ h=>h.k rfl
theorem s_Moved (x:Lsl) (w:World) (hf:x.fit) (hd:LedIn w w.heap.size x exL2) :
 Calls Tryz.prog 36 #[.agg #[.slice x.pA x.pn x.pc,.slice x.rA x.rn x.rc,.slice x.tA x.tn x.tc,.slice x.sA x.sn x.sc],.int .i64 20,.int .i64 30,.int .i64 60] w (RetKF [(1,1),(1,2),(1,3),(2,1)] 4 w):=by
 have h:=p_MovedX exL2 x 20 30 60 w hf hd
 rw [ex2_moved] at h
 exact h.mono fun _ _ h=>h.k rfl
theorem s_Placed (x:Lsl) (D:Option Addr) (c0:Nat) (w:World) (hf:x.fit) (hd:LedIn w w.heap.size x exL2) (hy:Is w w.heap.size D 2 [25,30]) :
 Calls Tryz.prog 14 #[.agg #[.slice x.pA x.pn x.pc,.slice x.rA x.rn x.rc,.slice x.tA x.tn x.tc,.slice x.sA x.sn x.sc],.slice D 2 c0,.int .i64 1,.int .i64 27,.int .i64 60] w (RetK [0,0,5] 3 w):=by
 have h:=p_PlacedX exL2 x [25,30] D 2 c0 1 27 60 w hf hd (by decide) hy
 rw [ex2_placed] at h
 exact h.mono fun _ _ h=>h.k rfl
theorem s_True (x:Lsl) (D:Option Addr) (c0:Nat) (w:World) (hf:x.fit) (hd:LedIn w w.heap.size x exL2) (hy:Is w w.heap.size D 2 [41,11]) :
 Calls Tryz.prog 13 #[.agg #[.slice x.pA x.pn x.pc,.slice x.rA x.rn x.rc,.slice x.tA x.tn x.tc,.slice x.sA x.sn x.sc],.int .i64 60,.slice D 2 c0] w (fun e w'=>e=.returned (.int .i64 29)∧Below w.heap.size w w'):=by
 have h:=p_CheckTrue exL2 x 60 [41,11] D 2 c0 w hf hd (by decide) hy
 rw [ex2_true] at h
 exact h
set_option maxRecDepth 100000 in
theorem r_sane2 (w:World) :
 Calls Tryz.prog 21 #[] w fun e w'=>e=.returned (.bool true)∧Below w.heap.size w w':=by
 go_enter Tryz.func21,Tryz.ntmps21
 go_wp2_with fail
 refine (r_ledger _).mono ?_
 rintro e w1 ⟨⟨pA,pn,pc,rA,rn,rc,tA,tn,tc,sA,sn,sc⟩,rfl,hb1,hf,hd1⟩
 have HB1:Below w.heap.size w w1:=hb1
 have HD:=hd_ hd1
 have HF:=hd_ hf
 have bL:=BoxA.new w1 32 #[.slice pA pn pc,.slice rA rn rc,.slice tA tn tc,.slice sA sn sc]
 clear hd1 hb1 hf
 go_wp2_with fail
 refine (s_Double ⟨pA,pn,pc,rA,rn,rc,tA,tn,tc,sA,sn,sc⟩ _ HF.out (HD.out.now (by exact bel_))).mono ?_
 rintro e w2 ⟨A2,c2,rfl,hb,hi⟩
 have HQ:Below w1.heap.size w1 w2:=bt_ (by exact bel_) hb
 have HB2:Below w.heap.size w w2:=bt_ HB1 HQ
 replace HD:=hd_ (HD.out.now HQ)
 replace bL:=bL.ext hb
 have kL:=bL.cell
 have zL:=bL.lt
 have J2:=hd_ hi
 clear hi
 clear hb HB1 HQ
 go_wp2_with fail
 refine (s_Days ⟨pA,pn,pc,rA,rn,rc,tA,tn,tc,sA,sn,sc⟩ _ HF.out (HD.out.now (by exact bel_))).mono ?_
 rintro e w3 ⟨rfl,hb⟩
 have HQ:Below w2.heap.size w2 w3:=bt_ (by exact bel_) hb
 have HB3:Below w.heap.size w w3:=bt_ HB2 HQ
 replace HD:=hd_ (HD.out.now HQ)
 replace bL:=bL.ext HQ
 replace kL:=bL.cell
 replace zL:=bL.lt
 replace J2:=hd_ (J2.out.now HQ)
 clear hb HB2 HQ
 go_wp2_with fail
 refine (s_Clash ⟨pA,pn,pc,rA,rn,rc,tA,tn,tc,sA,sn,sc⟩ _ HF.out (HD.out.now (by exact bel_))).mono ?_
 rintro e w4 ⟨A4,c4,rfl,hb,hi⟩
 have HQ:Below w3.heap.size w3 w4:=bt_ (by exact bel_) hb
 have HB4:Below w.heap.size w w4:=bt_ HB3 HQ
 replace HD:=hd_ (HD.out.now HQ)
 replace bL:=bL.ext HQ
 replace kL:=bL.cell
 replace zL:=bL.lt
 replace J2:=hd_ (J2.out.now HQ)
 have bR:=(BoxA.new w3 61 #[.int .i64 26,.int .i64 40]).ext hb
 have r0:=bR.cell 0
 have r1:=bR.cell 1
 have zR:=bR.lt
 have J4:=hd_ hi
 clear hi
 clear hb HB3 HQ
 go_wp2_with fail
 refine (s_Where ⟨pA,pn,pc,rA,rn,rc,tA,tn,tc,sA,sn,sc⟩ _ HF.out (HD.out.now (by exact bel_))).mono ?_
 rintro e w5 ⟨A5,c5,rfl,hb,hi⟩
 have HQ:Below w4.heap.size w4 w5:=bt_ (by exact bel_) hb
 have HB5:Below w.heap.size w w5:=bt_ HB4 HQ
 replace HD:=hd_ (HD.out.now HQ)
 replace bL:=bL.ext HQ
 replace kL:=bL.cell
 replace zL:=bL.lt
 replace J2:=hd_ (J2.out.now HQ)
 replace bR:=bR.ext HQ
 replace r0:=bR.cell 0
 replace r1:=bR.cell 1
 replace zR:=bR.lt
 replace J4:=hd_ (J4.out.now HQ)
 have J5:=hd_ hi
 clear hi
 clear hb HB4 HQ
 go_wp2_with fail
 refine (s_Whole ⟨pA,pn,pc,rA,rn,rc,tA,tn,tc,sA,sn,sc⟩ _ HF.out (HD.out.now (by exact bel_))).mono ?_
 rintro e w6 ⟨rfl,hb⟩
 have HQ:Below w5.heap.size w5 w6:=bt_ (by exact bel_) hb
 have HB6:Below w.heap.size w w6:=bt_ HB5 HQ
 replace HD:=hd_ (HD.out.now HQ)
 replace bL:=bL.ext HQ
 replace kL:=bL.cell
 replace zL:=bL.lt
 replace J2:=hd_ (J2.out.now HQ)
 replace bR:=bR.ext HQ
 replace r0:=bR.cell 0
 replace r1:=bR.cell 1
 replace zR:=bR.lt
 replace J4:=hd_ (J4.out.now HQ)
 replace J5:=hd_ (J5.out.now HQ)
 clear hb HB5 HQ
 go_wp2_with fail
 refine (s_Lies ⟨pA,pn,pc,rA,rn,rc,tA,tn,tc,sA,sn,sc⟩ _ HF.out (HD.out.now (by exact bel_))).mono ?_
 rintro e w7 ⟨rfl,hb⟩
 have HQ:Below w6.heap.size w6 w7:=bt_ (by exact bel_) hb
 have HB7:Below w.heap.size w w7:=bt_ HB6 HQ
 replace HD:=hd_ (HD.out.now HQ)
 replace bL:=bL.ext HQ
 replace kL:=bL.cell
 replace zL:=bL.lt
 replace J2:=hd_ (J2.out.now HQ)
 replace bR:=bR.ext HQ
 replace r0:=bR.cell 0
 replace r1:=bR.cell 1
 replace zR:=bR.lt
 replace J4:=hd_ (J4.out.now HQ)
 replace J5:=hd_ (J5.out.now HQ)
 clear hb HB6 HQ
 go_wp2_with fail
 refine (s_Has ⟨pA,pn,pc,rA,rn,rc,tA,tn,tc,sA,sn,sc⟩ _ HF.out (HD.out.now (by exact bel_))).mono ?_
 rintro e w8 ⟨A8,c8,rfl,hb,hi⟩
 have HQ:Below w7.heap.size w7 w8:=bt_ (by exact bel_) hb
 have HB8:Below w.heap.size w w8:=bt_ HB7 HQ
 replace HD:=hd_ (HD.out.now HQ)
 replace bL:=bL.ext HQ
 replace kL:=bL.cell
 replace zL:=bL.lt
 replace J2:=hd_ (J2.out.now HQ)
 replace bR:=bR.ext HQ
 replace r0:=bR.cell 0
 replace r1:=bR.cell 1
 replace zR:=bR.lt
 replace J4:=hd_ (J4.out.now HQ)
 replace J5:=hd_ (J5.out.now HQ)
 have J8:=hd_ hi
 clear hi
 clear hb HB7 HQ
 go_wp2_with fail
 refine (s_Placed ⟨pA,pn,pc,rA,rn,rc,tA,tn,tc,sA,sn,sc⟩ _ _ _ HF.out (HD.out.now (by exact bel_)) (Rd.new _ #[.int .i64 25,.int .i64 30] _ 1 2 _ (by simp) rfl)).mono ?_
 rintro e w9 ⟨A9,c9,rfl,hb,hi⟩
 have HQ:Below w8.heap.size w8 w9:=bt_ (by exact bel_) hb
 have HB9:Below w.heap.size w w9:=bt_ HB8 HQ
 replace HD:=hd_ (HD.out.now HQ)
 replace bL:=bL.ext HQ
 replace kL:=bL.cell
 replace zL:=bL.lt
 replace J2:=hd_ (J2.out.now HQ)
 replace bR:=bR.ext HQ
 replace r0:=bR.cell 0
 replace r1:=bR.cell 1
 replace zR:=bR.lt
 replace J4:=hd_ (J4.out.now HQ)
 replace J5:=hd_ (J5.out.now HQ)
 replace J8:=hd_ (J8.out.now abF HQ)
 have J9:=hd_ hi
 clear hi
 clear hb HB8 HQ
 go_wp2_with fail
 refine (s_Moved ⟨pA,pn,pc,rA,rn,rc,tA,tn,tc,sA,sn,sc⟩ _ HF.out (HD.out.now (by exact bel_))).mono ?_
 rintro e w10 ⟨A10,c10,rfl,hb,hi⟩
 have HQ:Below w9.heap.size w9 w10:=bt_ (by exact bel_) hb
 have HB10:Below w.heap.size w w10:=bt_ HB9 HQ
 replace HD:=hd_ (HD.out.now HQ)
 replace bL:=bL.ext HQ
 replace kL:=bL.cell
 replace zL:=bL.lt
 replace J2:=hd_ (J2.out.now HQ)
 replace bR:=bR.ext HQ
 replace r0:=bR.cell 0
 replace r1:=bR.cell 1
 replace zR:=bR.lt
 replace J4:=hd_ (J4.out.now HQ)
 replace J5:=hd_ (J5.out.now HQ)
 replace J8:=hd_ (J8.out.now abF HQ)
 replace J9:=hd_ (J9.out.now HQ)
 clear hi
 clear hb HB9 HQ
 go_wp2_with fail
 refine (r_Same2 [10,11] [10,11] true _ _ 2 _ 2 _ _ (by decide) (by decide) (J2.out.now (by exact bel_)) (Rd.new _ #[.int .i64 10,.int .i64 11] _ 1 2 _ (by simp) rfl) (by decide)).mono ?_
 rintro e w11 ⟨rfl,hb⟩
 have HQ:Below w10.heap.size w10 w11:=bt_ (by exact bel_) hb
 have HB11:Below w.heap.size w w11:=bt_ HB10 HQ
 replace HD:=hd_ (HD.out.now HQ)
 replace bL:=bL.ext HQ
 replace kL:=bL.cell
 replace zL:=bL.lt
 replace bR:=bR.ext HQ
 replace r0:=bR.cell 0
 replace r1:=bR.cell 1
 replace zR:=bR.lt
 replace J4:=hd_ (J4.out.now HQ)
 replace J5:=hd_ (J5.out.now HQ)
 replace J8:=hd_ (J8.out.now abF HQ)
 replace J9:=hd_ (J9.out.now HQ)
 clear hb HB10 HQ
 go_wp2_with fail
 refine (r_Same2 [30,31] [30,31] true _ _ 2 _ 2 _ _ (by decide) (by decide) (J4.out.now (by exact bel_)) (Rd.new _ #[.int .i64 30,.int .i64 31] _ 1 2 _ (by simp) rfl) (by decide)).mono ?_
 rintro e w12 ⟨rfl,hb⟩
 have HQ:Below w11.heap.size w11 w12:=bt_ (by exact bel_) hb
 have HB12:Below w.heap.size w w12:=bt_ HB11 HQ
 replace HD:=hd_ (HD.out.now HQ)
 replace bL:=bL.ext HQ
 replace kL:=bL.cell
 replace zL:=bL.lt
 replace J5:=hd_ (J5.out.now HQ)
 replace J8:=hd_ (J8.out.now abF HQ)
 replace J9:=hd_ (J9.out.now HQ)
 clear hb HB11 HQ
 go_wp2_with fail
 refine (r_Same2 [0,5] [0,5] true _ _ 2 _ 2 _ _ (by decide) (by decide) (J5.out.now (by exact bel_)) (Rd.new _ #[.int .i64 0,.int .i64 5] _ 1 2 _ (by simp) rfl) (by decide)).mono ?_
 rintro e w13 ⟨rfl,hb⟩
 have HQ:Below w12.heap.size w12 w13:=bt_ (by exact bel_) hb
 have HB13:Below w.heap.size w w13:=bt_ HB12 HQ
 replace HD:=hd_ (HD.out.now HQ)
 replace bL:=bL.ext HQ
 replace kL:=bL.cell
 replace zL:=bL.lt
 replace J8:=hd_ (J8.out.now abF HQ)
 replace J9:=hd_ (J9.out.now HQ)
 clear hb HB12 HQ
 go_wp2_with fail
 refine (r_SameFols [(1,1),(1,2)] [(1,1),(1,2)] true _ _ 2 _ 2 _ _ (by decide) (by decide) (J8.out.now abF (by exact bel_)) ((BoxA.new _ 48 #[.int .i64 1,.int .i64 1,.int .i64 1,.int .i64 2]).sqF (P:=[(1,1),(1,2)]) rfl (by simp)) (by decide)).mono ?_
 rintro e w14 ⟨rfl,hb⟩
 have HQ:Below w13.heap.size w13 w14:=bt_ (by exact bel_) hb
 have HB14:Below w.heap.size w w14:=bt_ HB13 HQ
 replace HD:=hd_ (HD.out.now HQ)
 replace bL:=bL.ext HQ
 replace kL:=bL.cell
 replace zL:=bL.lt
 replace J9:=hd_ (J9.out.now HQ)
 clear hb HB13 HQ
 go_wp2_with fail
 refine (r_Same2 [0,0,5] [0,0,5] true _ _ 3 _ 3 _ _ (by decide) (by decide) (J9.out.now (by exact bel_)) (Rd.new _ #[.int .i64 0,.int .i64 0,.int .i64 5] _ 1 3 _ (by simp) rfl) (by decide)).mono ?_
 rintro e w15 ⟨rfl,hb⟩
 have HQ:Below w14.heap.size w14 w15:=bt_ (by exact bel_) hb
 have HB15:Below w.heap.size w w15:=bt_ HB14 HQ
 replace HD:=hd_ (HD.out.now HQ)
 replace bL:=bL.ext HQ
 replace kL:=bL.cell
 replace zL:=bL.lt
 clear hb HB14 HQ
 go_wp2_with fail
 refine (s_True ⟨pA,pn,pc,rA,rn,rc,tA,tn,tc,sA,sn,sc⟩ _ _ _ HF.out (HD.out.now (by exact bel_)) (Rd.new _ #[.int .i64 41,.int .i64 11] _ 1 2 _ (by simp) rfl)).mono ?_
 rintro e w16 ⟨rfl,hb⟩
 have HQ:Below w15.heap.size w15 w16:=bt_ (by exact bel_) hb
 have HB16:Below w.heap.size w w16:=bt_ HB15 HQ
 replace HD:=hd_ (HD.out.now HQ)
 replace bL:=bL.ext HQ
 replace kL:=bL.cell
 replace zL:=bL.lt
 clear hb HB15 HQ
 go_wp2_with fail
 go_ret
 exact ⟨rfl,HB16⟩
def Cn (days:List Int) (D:List (Int × Int)):Prop:=days.length=D.length∧∀ (k:Nat) (y:Int) (d:Int × Int),days[k]?=some y→D[k]?=some d→d.1≤y∧y≤d.2
theorem cn_true {days:List Int} {D:List (Int × Int)}:Cn days D↔days.length=D.length∧trueD days D=true:=by
 refine and_congr_right fun hl=>⟨fun h=>?_,fun h k y d hy hd=>true_at h hy hd⟩
 rw [trueD,List.all_eq_true]
 intro p hp
 obtain ⟨k,hk,he⟩:=List.mem_iff_getElem.1 hp
 have hz:(List.zip days D)[k]?=some p:=by rw [List.getElem?_eq_getElem hk,he]
 obtain ⟨y,d⟩:=p
 rw [List.getElem?_zip_eq_some] at hz
 have:=h k y d hz.1 hz.2
 simp [withinB,this]
theorem cn_set {days:List Int} {D:List (Int × Int)} {k:Nat} {y:Int} {e d:Int × Int} (hy:days[k]?=some y) (hd:D[k]?=some d) (he:(d.1≤e.1∧e.2≤d.2)):Cn days (D.set k e)↔Cn days D∧e.1≤y∧y≤e.2:=by
 have hk:k<D.length:=(List.getElem?_eq_some_iff.1 hd).1
 constructor
 ·rintro ⟨h1,h2⟩
  have h3:=h2 k y e hy (by rw [List.getElem?_set_self hk])
  refine ⟨⟨by simpa using h1,fun j z f hz hf=>?_⟩,h3⟩
  by_cases hj:k=j
  ·subst hj
   obtain rfl:y=z:=Option.some.inj (hy.symm.trans hz)
   obtain rfl:d=f:=Option.some.inj (hd.symm.trans hf)
   omega
  ·exact h2 j z f hz (by rw [List.getElem?_set_ne hj];exact hf)
 ·rintro ⟨⟨h1,h2⟩,h3⟩
  refine ⟨by simpa using h1,fun j z f hz hf=>?_⟩
  by_cases hj:k=j
  ·subst hj
   obtain rfl:y=z:=Option.some.inj (hy.symm.trans hz)
   rw [List.getElem?_set_self hk] at hf
   obtain rfl:e=f:=Option.some.inj hf
   exact h3
  ·rw [List.getElem?_set_ne hj] at hf
   exact h2 j z f hz hf
theorem lt_rtIx {T:List Bool} {rt:List Rtn} {s x:Int} {k:Nat} (h:rtIx T rt s x=some k):k<rt.length:=by
 obtain ⟨-,t,ht,-⟩:=rt_some h
 exact (List.getElem?_eq_some_iff.1 ht).1
theorem nar_iff {l:Led} {kn:Int} {days:List Int} {D:List (Int × Int)} {s:Sgt} (h0:∀ r∈l.rc,0≤r.day) (hb:∀ r∈l.rc,r.bor≠0) (hD:D.length=l.rt.length) (hl:days.length=l.rt.length) :
 (Cn days (refN l (tellK l kn l.rt.length) kn D s).1∧(refN l (tellK l kn l.rt.length) kn D s).2=true)↔(Cn days D∧s.per=whoF l kn s.day days s.pap s.leaf):=by
 unfold refN
 cases hL:lastK kn s.pap s.leaf s.day l.rc l.rc.length with
 | none =>
   rw [wt_none h0 hL]
   simp
 | some p =>
   obtain ⟨j,d⟩:=p
   obtain ⟨_,x,hx,_⟩:=lastK_at hL
   have hbx:=hb x (List.mem_of_getElem? hx)
   rw [wt_some h0 hL hx]
   simp only [hx]
   cases hk:rtIx (tellK l kn l.rt.length) l.rt x.src s.leaf with
   | none=>simp [withR]
   | some k =>
     have hkl:=lt_rtIx hk
     obtain ⟨d,hd⟩:∃ d,D[k]?=some d:=⟨_,List.getElem?_eq_getElem (by omega)⟩
     obtain ⟨y,hy⟩:∃ y,days[k]?=some y:=⟨_,List.getElem?_eq_getElem (by omega)⟩
     simp only [withR,List.getD_eq_getElem?_getD,hd,hy,Option.getD_some]
     by_cases hp:s.per=x.bor
     ·rw [if_pos hp,cn_set hy hd (by dsimp only;omega)]
      dsimp only
      rw [decide_eq_true_eq]
      constructor
      ·rintro ⟨⟨h1,h2⟩,h3⟩
       exact ⟨h1,by rw [if_pos (by omega)];exact hp⟩
      ·rintro ⟨h1,h2⟩
       have h4:=h1.2 k y d hy hd
       split at h2
       ·refine ⟨⟨h1,by omega⟩,by omega⟩
       ·exact absurd (hp.symm.trans h2) hbx
     ·rw [if_neg hp]
      by_cases hq:s.per=0
      ·rw [if_pos hq,cn_set hy hd (by dsimp only;omega)]
       dsimp only
       rw [decide_eq_true_eq]
       constructor
       ·rintro ⟨⟨h1,h2⟩,h3⟩
        exact ⟨h1,by rw [if_neg (by omega)];exact hq⟩
       ·rintro ⟨h1,h2⟩
        have h4:=h1.2 k y d hy hd
        split at h2
        ·exact absurd h2 hp
        ·refine ⟨⟨h1,by omega⟩,by omega⟩
      ·rw [if_neg hq]
       constructor
       ·rintro ⟨-,h⟩;cases h
       ·rintro ⟨-,h⟩
        split at h
        ·exact absurd h hp
        ·exact absurd h hq
theorem refL_iff {l:Led} {kn:Int} {days:List Int} (h0:∀ r∈l.rc,0≤r.day) (hb:∀ r∈l.rc,r.bor≠0) (hl:days.length=l.rt.length):∀ (S:List Sgt) {D:List (Int × Int)},D.length=l.rt.length →
 ((Cn days (refL l (tellK l kn l.rt.length) kn S D).1∧(refL l (tellK l kn l.rt.length) kn S D).2=true)↔(Cn days D∧∀ s∈S,s.per=whoF l kn s.day days s.pap s.leaf))
 | [],D,_=>by simp [refL]
 | s :: S,D,hD=>by
   rw [refL]
   dsimp only
   have h1:=refL_iff (kn:=kn) h0 hb hl S (D:=(refN l (tellK l kn l.rt.length) kn D s).1) (by rw [refN_len];exact hD)
   have h2:=nar_iff (kn:=kn) (s:=s) h0 hb hD hl
   rw [Bool.and_eq_true]
   constructor
   ·rintro ⟨a,b,c⟩
    obtain ⟨d,e⟩:=h1.1 ⟨a,c⟩
    obtain ⟨f,g⟩:=h2.1 ⟨d,b⟩
    refine ⟨f,fun z hz=>?_⟩
    rcases List.mem_cons.1 hz with rfl | hz
    ·exact g
    ·exact e z hz
   ·rintro ⟨a,b⟩
    obtain ⟨c,d⟩:=h2.2 ⟨a,b s (List.mem_cons_self ..)⟩
    obtain ⟨e,f⟩:=h1.2 ⟨c,fun z hz=>b z (List.mem_cons_of_mem _ hz)⟩
    exact ⟨e,d,f⟩
theorem true_iff {l:Led} {kn:Int} {days:List Int} (h:ledB l=true):trueE l kn days=0↔days.length=l.rt.length∧firstP (refD l (tellK l kn l.rt.length) kn) l.rc=none∧Cn days (byL l kn)∧∀ s∈cntS l kn,s.per=whoF l kn s.day days s.pap s.leaf:=by
 obtain ⟨h0,hb⟩:=led_bor h
 constructor
 ·intro ht
  obtain ⟨h1,h2,h3⟩:=true_of ht
  have h4:=h2
  rw [set_ref h] at h4
  cases hf:firstP (refD l (tellK l kn l.rt.length) kn) l.rc with
  | some p=>rw [hf] at h4;simp at h4
  | none =>
    cases hR:(refL l (tellK l kn l.rt.length) kn (cntS l kn) (byL l kn)).2 with
    | false=>rw [hf,hR] at h4;simp at h4
    | true =>
      refine ⟨h1,rfl,(refL_iff h0 hb h1 _ (byL_len l kn)).1 ⟨?_,hR⟩⟩
      rw [← setP_ref h kn hR]
      exact cn_true.2 ⟨by rw [setP_len h h2];exact h1,h3⟩
 ·rintro ⟨h1,hf,hc,hs⟩
  obtain ⟨a,hR⟩:=(refL_iff (kn:=kn) h0 hb h1 _ (byL_len l kn)).2 ⟨hc,hs⟩
  have h2:setE l kn=0:=by rw [set_ref h,hf,hR];rfl
  rw [← setP_ref h kn hR] at a
  rw [trueE,if_pos ⟨h1,h2⟩,(cn_true.1 a).2]
  rfl
structure HgMk (k:Nat) (s:Sgt):Prop where
 src:s.src=3*(k:Int)+3
 per:0≤s.per∧s.per≤4
 pap:∃ p∈mPp,s.pap=p.id∧1≤s.leaf∧s.leaf≤p.lv
 day:0≤s.day∧s.day≤300
 kn:0≤s.kn∧s.kn≤400
 un:s.un=0
structure HnOk (l:Led) (days:List Int):Prop where
 pp:l.pp=mPp
 rl:l.rc.length≤8
 tl:l.rt.length≤8
 sl:l.sg.length≤6
 rc:∀ r∈l.rc,∃ j:Nat,j<8∧RcMk 160 j r
 ru:l.rc.Pairwise fun x y=>x.src<y.src
 rt:∀ (k:Nat) t,l.rt[k]?=some t→∃ (y:Int) (j:Nat) (r:Rcp),days[k]?=some y∧j<8∧RtMk l.rc j t y∧r∈l.rc∧t.rcp=r.src∧r.day<y∧∀ x∈t.lv,x∈r.lv
 tu:l.rt.Pairwise fun x y=>x.src<y.src
 td:∀ (i j:Nat) t u,i<j→l.rt[i]?=some t→l.rt[j]?=some u→t.rcp=u.rcp→∀ x∈t.lv,x ∉ u.lv
 cl:∀ x y,[x,y].Sublist l.rc→x.pap=y.pap→∀ f∈x.lv,f∈y.lv→x.day≠y.day∧∃ (k:Nat) (t:Rtn) (d:Int),l.rt[k]?=some t∧days[k]?=some d∧t.rcp=x.src∧f∈t.lv∧d≤y.day
 dl:days.length=l.rt.length
 sg:∀ (k:Nat) s,l.sg[k]?=some s→HgMk k s
 sw:∀ s∈l.sg,s.per=whoF l 900 s.day days s.pap s.leaf
theorem HnOk.led {l:Led} {days:List Int} (h:HnOk l days):ledB l=true:=by
 simp only [ledB,Bool.and_eq_true,decide_eq_true_eq]
 refine ⟨by rw [h.pp];decide,val_mk (by have:=h.rl;omega) (fun r hr=>?_) h.ru,val_mk (by have:=h.tl;omega) (idx_all fun k t ht=>?_) h.tu,val_mk (by have:=h.sl;omega) (idx_all fun k s hs=>?_) (idx_up (a:=3) (b:=3) (by decide) fun k s hs=>(h.sg k s hs).src),?_,?_⟩
 ·obtain ⟨j,hj,h1,h2,⟨p,hp,h3,h4⟩,h5,h6,h7⟩:=h.rc r hr
  have hlv:leavesB r.lv=true:=bits_ok h4 (by rcases mem_pp hp with ⟨-,e⟩ | ⟨-,e⟩ | ⟨-,e⟩ <;> omega)
  have hpi:1≤r.pap∧r.pap≤5:=by rcases mem_pp hp with ⟨e,-⟩ | ⟨e,-⟩ | ⟨e,-⟩ <;> omega
  simp only [true_and,and_true,true_or,Rcp.okB,withinB,lastsB,hlv,h7,Bool.and_eq_true,Bool.or_eq_true,decide_eq_true_eq]
  omega
 ·obtain ⟨y,j,r,-,hj,⟨h1,-,h3,⟨n,hn,h4⟩,h5,h6,h7⟩,hr,h8,-⟩:=h.rt k t ht
  have hlv:leavesB t.lv=true:=bits_ok h4 hn
  obtain ⟨i,hi,hs,-⟩:=h.rc r hr
  simp only [true_and,and_true,true_or,Rtn.okB,withinB,rangeB,lastsB,hlv,h7,Bool.and_eq_true,Bool.or_eq_true,decide_eq_true_eq]
  omega
 ·have hk:k<l.sg.length:=(List.getElem?_eq_some_iff.1 hs).1
  have hsl:=h.sl
  obtain ⟨h1,h2,⟨p,hp,h3,h4⟩,h5,h6,h7⟩:=h.sg k s hs
  have hpi:1≤s.pap∧s.pap≤5∧s.leaf≤4:=by rcases mem_pp hp with ⟨e,f⟩ | ⟨e,f⟩ | ⟨e,f⟩ <;> omega
  simp only [true_and,and_true,true_or,Sgt.okB,withinB,lastsB,h7,Bool.and_eq_true,Bool.or_eq_true,decide_eq_true_eq]
  omega
 ·have a1:(l.rc.map Rcp.src).Nodup:=by
   rw [List.nodup_iff_pairwise_ne,List.pairwise_map]
   exact h.ru.imp fun h=>by omega
  have a2:(l.rt.map Rtn.src).Nodup:=by
   rw [List.nodup_iff_pairwise_ne,List.pairwise_map]
   exact h.tu.imp fun h=>by omega
  have a3:(l.sg.map Sgt.src).Nodup:=by
   rw [List.nodup_iff_pairwise_ne,List.pairwise_map]
   exact (idx_up (f:=Sgt.src) (a:=3) (b:=3) (by decide) fun k s hs=>(h.sg k s hs).src).imp fun h=>by omega
  have m1:∀ x∈l.rc.map Rcp.src,x % 3=1:=fun x hx=>by
   obtain ⟨r,hr,rfl⟩:=List.mem_map.1 hx
   obtain ⟨j,-,hj⟩:=h.rc r hr
   rw [hj.src];omega
  have m2:∀ x∈l.rt.map Rtn.src,x % 3=2:=fun x hx=>by
   obtain ⟨r,hr,rfl⟩:=List.mem_map.1 hx
   exact idx_all (P:=fun r=>r.src % 3=2) (fun k r hr=>by obtain ⟨y,j,-,-,-,hy,-⟩:=h.rt k r hr;rw [hy.src];omega) r hr
  have m3:∀ x∈l.sg.map Sgt.src,x % 3=0:=fun x hx=>by
   obtain ⟨r,hr,rfl⟩:=List.mem_map.1 hx
   exact idx_all (P:=fun r=>r.src % 3=0) (fun k r hr=>by rw [(h.sg k r hr).src];omega) r hr
  rw [srcL,List.nodup_append]
  refine ⟨a1,List.nodup_append.2 ⟨a2,a3,fun x hx y hy e=>?_⟩,fun x hx y hy e=>?_⟩
  ·have:=m2 x hx;have:=m3 y hy;omega
  ·have q1:=m1 x hx
   rcases List.mem_append.1 hy with hy | hy
   ·have:=m2 y hy;omega
   ·have:=m3 y hy;omega
 ·rw [h.pp,folsB,List.all_eq_true]
  intro f hf
  simp only [namL,List.mem_append,List.mem_flatMap,List.mem_map] at hf
  have g:∀ (p:Ppr) (x:Int),p∈mPp→1≤x→x≤p.lv→folB mPp p.id x=true:=fun p x hp h1 h2=>by
   rw [folB,lv_pp hp]
   simp [withinB,h1,h2]
  rcases hf with ⟨r,hr,hf⟩ | ⟨s,hs,rfl⟩
  ·simp only [rcFol,List.mem_map] at hf
   obtain ⟨x,hx,rfl⟩:=hf
   obtain ⟨j,-,hj⟩:=h.rc r hr
   obtain ⟨p,hp,h3,h4⟩:=hj.pap
   dsimp only
   rw [h3]
   exact g p x hp (h4.lo x hx).1 (h4.lo x hx).2
  ·obtain ⟨k,hk,he⟩:=List.mem_iff_getElem.1 hs
   obtain ⟨p,hp,h3,h4,h5⟩:=(h.sg k s (by rw [← he];exact List.getElem?_eq_getElem hk)).pap
   dsimp only
   rw [h3]
   exact g p _ hp h4 h5
theorem rc_ix {R:List Rcp} {kn:Int} {r:Rcp} (hu:R.Pairwise fun x y=>x.src<y.src) (hr:r∈R) (hc:countsB r.kn r.un kn=true):∃ i,rcIx R r.src kn=some i∧R[i]?=some r:=by
 obtain ⟨i,hi,he⟩:=List.mem_iff_getElem.1 hr
 refine ⟨i,?_,by rw [← he];exact List.getElem?_eq_getElem hi⟩
 rw [rcIx,List.findIdx?_eq_some_iff_getElem]
 refine ⟨hi,by rw [he];simp [rcAt,hc],fun j hj=>?_⟩
 have:=List.pairwise_iff_getElem.1 hu j i (by omega) hi hj
 rw [he] at this
 have h2:¬ R[j].src=r.src:=by omega
 simp [rcAt,h2]
theorem RcMk.cnt {d:Int} {j:Nat} {r:Rcp} (h:RcMk d j r) (hd:d≤160):countsB r.kn r.un 900=true:=by
 have h1:=h.kn;have h2:=h.day;have h3:=h.un
 simp [countsB,h3];omega
section
variable {l:Led} {days:List Int} (h:HnOk l days)
include h
theorem HnOk.cnt {r:Rcp} (hr:r∈l.rc):countsB r.kn r.un 900=true:=by
 obtain ⟨j,-,hj⟩:=h.rc r hr
 exact hj.cnt (by decide)
theorem HnOk.tell {k:Nat} {t:Rtn} (ht:l.rt[k]?=some t):(tellK l 900 l.rt.length)[k]?=some true:=by
 have hk:k<l.rt.length:=(List.getElem?_eq_some_iff.1 ht).1
 rw [tellK_get ht _ hk lr_]
 obtain ⟨y,j,r,-,hj,hm,hr,hs,hd,hlv⟩:=h.rt k t ht
 obtain ⟨i,hi,hir⟩:=rc_ix h.ru hr (h.cnt hr)
 rw [← hs] at hi
 rw [tellB_some hi hir]
 have h5:=hm.day;have h6:=hm.kn;have h7:=hm.un
 have c1:countsB t.kn t.un 900=true:=by simp [countsB,h7];omega
 have c2:(!decide (t.hi<max t.lo (r.day+1)))=true:=by simp;omega
 have c3:fineB (tellK l 900 k) l.rt k t r t.lv=true:=by
  rw [fineB,List.all_eq_true]
  intro x hx
  simp only [Bool.and_eq_true,decide_eq_true_eq,Bool.not_eq_true']
  refine ⟨hlv x hx,?_⟩
  rw [List.any_eq_false]
  intro p hp hpt
  obtain ⟨j,hj,he⟩:=List.mem_iff_getElem.1 hp
  rw [List.length_take] at hj
  have hz:(List.zip (tellK l 900 k) l.rt)[j]?=some p:=by
   rw [List.getElem_take] at he
   rw [List.getElem?_eq_getElem (by omega),he]
  obtain ⟨b,u⟩:=p
  rw [List.getElem?_zip_eq_some] at hz
  simp only [rtAt,Bool.and_eq_true,decide_eq_true_eq] at hpt
  exact h.td j k u t (by omega) hz.2 ht hpt.2.1 x hpt.2.2 hx
 rw [c1,c2,c3]
 rfl
theorem HnOk.ix {k:Nat} {t:Rtn} {f:Int} (ht:l.rt[k]?=some t) (hf:f∈t.lv):rtIx (tellK l 900 l.rt.length) l.rt t.rcp f=some k:=by
 obtain ⟨y,j,r,-,hj,hm,hr,hs,hd,hlv⟩:=h.rt k t ht
 obtain ⟨i,hi,hir⟩:=rc_ix h.ru hr (h.cnt hr)
 rw [← hs] at hi
 exact (tell_rt (h.tell ht) ht hi hir hf).2
theorem HnOk.rcOf {k:Nat} {t:Rtn} {r:Rcp} (ht:l.rt[k]?=some t) (hr:r∈l.rc) (hs:t.rcp=r.src):∃ y,days[k]?=some y∧r.day<y∧t.lo≤y∧y≤t.hi∧t.hi≤200∧∀ x∈t.lv,x∈r.lv:=by
 obtain ⟨y,j,r',hy,hj,hm,hr',hs',hd,hlv⟩:=h.rt k t ht
 obtain ⟨i,hi,hir⟩:=rc_ix h.ru hr (h.cnt hr)
 obtain ⟨i',hi',hir'⟩:=rc_ix h.ru hr' (h.cnt hr')
 rw [← hs] at hi
 rw [← hs',hi] at hi'
 obtain rfl:=Option.some.inj hi'
 obtain rfl:=Option.some.inj (hir.symm.trans hir')
 exact ⟨y,hy,hd,hm.day.2.1,hm.day.2.2.1,hm.day.2.2.2,hlv⟩
theorem HnOk.back {x y:Rcp} (hs:[x,y].Sublist l.rc) (hp:x.pap=y.pap) {f:Int} (hx:f∈x.lv) (hy:f∈y.lv):∃ (k:Nat) (t:Rtn) (d:Int),l.rt[k]?=some t∧days[k]?=some d∧t.rcp=x.src∧f∈t.lv∧x.day<d∧t.lo≤d∧d≤y.day∧rtIx (tellK l 900 l.rt.length) l.rt x.src f=some k:=by
 obtain ⟨-,k,t,d,ht,hd,hr,hf,hdy⟩:=h.cl x y hs hp f hx hy
 have hxm:x∈l.rc:=hs.subset (by simp)
 obtain ⟨d',hd',h1,h2,-⟩:=h.rcOf ht hxm hr
 obtain rfl:=Option.some.inj (hd.symm.trans hd')
 exact ⟨k,t,d,ht,hd,hr,hf,h1,h2,hdy,by rw [← hr];exact h.ix ht hf⟩
theorem HnOk.agree:firstP (refD l (tellK l 900 l.rt.length) 900) l.rc=none:=by
 cases hp:firstP (refD l (tellK l 900 l.rt.length) 900) l.rc with
 | none=>rfl
 | some q =>
   exfalso
   obtain ⟨x,y⟩:=q
   obtain ⟨hs,hq⟩:=firstP_of hp
   have hlt:∀ f,f∈x.lv→f∈y.lv→x.pap=y.pap→x.day<y.day:=fun f hx hy hpp=>by
    obtain ⟨k,t,d,-,-,-,-,h1,-,h2,-⟩:=h.back hs hpp hx hy
    omega
   unfold refD at hq
   split at hq
   ·rename_i hd
    obtain ⟨f,hf,ho⟩:=List.any_eq_true.1 hq
    simp only [refOut,isOfB,Bool.and_eq_true,decide_eq_true_eq] at ho
    have:=hlt f ho.2.1.2.2 ho.1.2.2 ho.2.1.2.1
    omega
   ·obtain ⟨f,hf,ho⟩:=List.any_eq_true.1 hq
    simp only [refOut,isOfB,Bool.and_eq_true,decide_eq_true_eq] at ho
    obtain ⟨k,t,d,ht,-,-,-,h1,h2,h3,hix⟩:=h.back hs ho.2.1.2.1.symm ho.1.2.2 ho.2.1.2.2
    have h4:=ho.2.2
    simp only [hix,ht,Bool.or_eq_true,decide_eq_true_eq] at h4
    omega
theorem HnOk.within:Cn days (byL l 900):=by
 refine ⟨by rw [byL_len];exact h.dl,fun k y d hy hd=>?_⟩
 rw [byL,List.getElem?_map] at hd
 obtain ⟨i,hi,rfl⟩:=Option.map_eq_some_iff.1 hd
 obtain ⟨hil,rfl⟩:i<l.rt.length∧k=i:=by
  obtain ⟨h1,h2⟩:=List.getElem?_eq_some_iff.1 hi
  rw [List.getElem_range] at h2
  rw [List.length_range] at h1
  omega
 have ht:l.rt[k]?=some l.rt[k]:=List.getElem?_eq_getElem hil
 generalize l.rt[k]=t at ht
 obtain ⟨ix,r,hix,hr,he⟩:=byR_true (h.tell ht) ht
 rw [he]
 obtain ⟨r',hr',hrs,hrc⟩:=rcIx_some hix
 obtain rfl:=Option.some.inj (hr.symm.trans hr')
 have hrm:r∈l.rc:=List.mem_of_getElem? hr
 obtain ⟨y',hy',h1,h2,h3,h3b,h4⟩:=h.rcOf ht hrm hrs.symm
 obtain rfl:=Option.some.inj (hy.symm.trans hy')
 refine ⟨by dsimp only;omega,?_⟩
 have hfold:=foldl_le (q:=fun v (u:Rcp)=>∀ x∈t.lv,r.day<u.day∧(countsB u.kn u.un 900 && isOfB r.pap x u)=true→v≤u.day) (fun v a u=>refHi_le 900 v r t.lv a u) y l.rc t.hi
 refine hfold.2 ⟨h3,fun u hu x hx hc=>?_⟩
 have hc2:=hc.2
 simp only [isOfB,Bool.and_eq_true,decide_eq_true_eq] at hc2
 have hlt:=hc.1
 have hne:r.src≠u.src:=fun e=>by
  obtain ⟨i,hi,hir⟩:=rc_ix h.ru hrm (h.cnt hrm)
  obtain ⟨i',hi',hir'⟩:=rc_ix h.ru hu (h.cnt hu)
  rw [← e,hi] at hi'
  obtain rfl:=Option.some.inj hi'
  obtain rfl:=Option.some.inj (hir.symm.trans hir')
  omega
 rcases Int.lt_or_gt_of_ne hne with hlt2 | hlt2
 ·obtain ⟨k2,t2,d2,ht2,hd2,-,-,-,-,h5,h6⟩:=h.back (sub2_of h.ru hrm hu hlt2) hc2.2.1.symm (h4 x hx) hc2.2.2
  have h7:=h.ix ht hx
  rw [← hrs] at h7
  rw [h7] at h6
  obtain rfl:=Option.some.inj h6
  obtain rfl:=Option.some.inj (hy.symm.trans hd2)
  exact h5
 ·obtain ⟨k2,t2,d2,-,-,-,-,h5,-,h6,-⟩:=h.back (sub2_of h.ru hu hrm hlt2) hc2.2.1 hc2.2.2 (h4 x hx)
  omega
theorem HnOk.true_:trueE l 900 days=0 :=
 (true_iff h.led).2 ⟨h.dl,h.agree,h.within,fun s hs=>h.sw s (List.mem_filter.1 hs).1⟩
end
end Go.Proofs.YtmcmbicapdcfmaaGreat
