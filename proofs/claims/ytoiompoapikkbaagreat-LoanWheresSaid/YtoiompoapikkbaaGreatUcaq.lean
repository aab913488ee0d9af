/- Layer 2 of the texts that LoanWheres takes: Ucaq. -/
import Derived.Test.YtoiompoapikkbaaGreatUbzq
import Derived.Test.YtoiompoapikkbaaGreatUbuq
import Derived.Test.YtoiompoapikkbaaGreatUbvq
set_option linter.unusedVariables false
set_option linter.unusedSimpArgs false
/- Layer 2: sane, the chapter's example. -/
namespace Go.Proofs.YtoiompoapikkbaaGreat
open Go.RowKit Go.Maps
def RetK (xs:List Int) (n:Nat) (w:World) (e:Ending) (w':World):Prop:=∃ A c,e=.returned (.tuple #[.slice A n c,.int .i64 0])∧Below w.heap.size w w'∧Is w' w'.heap.size A n xs
theorem RetLE.k {xs:List Int} {n:Nat} {w w':World} {e:Ending} (hn:xs.length=n) (h:RetLE (xs,0) w e w'):RetK xs n w e w':=by
 obtain ⟨A,m,c,rfl,hb,hi,_,_⟩:=h
 have h1:xs.length=m:=hi.len
 obtain rfl:m=n:=by omega
 exact ⟨A,c,rfl,hb,hi⟩
def RetKF (xs:List (Int × Int)) (n:Nat) (w:World) (e:Ending) (w':World):Prop:=∃ A c,e=.returned (.tuple #[.slice A n c,.int .i64 0])∧Below w.heap.size w w'∧Sq QF 2 w' w'.heap.size A n xs
theorem RetFE.k {xs:List (Int × Int)} {n:Nat} {w w':World} {e:Ending} (hn:xs.length=n) (h:RetFE (xs,0) w e w'):RetKF xs n w e w':=by
 obtain ⟨A,m,c,rfl,hb,hi,hm⟩:=h
 have h1:xs.length=m:=hm
 obtain rfl:m=n:=by omega
 exact ⟨A,c,rfl,hb,sq_of_own hi hm⟩
theorem s_Double (x:Lsl) (w:World) (hf:x.fit) (hd:LedIn w w.heap.size x exL2) :
 Calls Tryz.prog 23 #[.agg #[.slice x.pA x.pn x.pc,.slice x.rA x.rn x.rc,.slice x.tA x.tn x.tc,.slice x.sA x.sn x.sc],.int .i64 50] w (RetK [10,11] 2 w):=by
 have h:=p_Double exL2 x 50 w hf hd
 rw [ex2_double] at h
 exact h.mono fun _ _ h=>h.k rfl
theorem s_Days (x:Lsl) (w:World) (hf:x.fit) (hd:LedIn w w.heap.size x exL2) :
 Calls Tryz.prog 34 #[.agg #[.slice x.pA x.pn x.pc,.slice x.rA x.rn x.rc,.slice x.tA x.tn x.tc,.slice x.sA x.sn x.sc],.int .i64 20,.int .i64 70] w (fun e w'=>e=.returned (.tuple #[.agg #[.int .i64 26,.int .i64 40],.int .i64 0])∧Below w.heap.size w w'):=by
 have h:=p_Days2 exL2 x 20 70 w hf hd
 rw [ex2_days] at h
 exact h
theorem s_Clash (x:Lsl) (w:World) (hf:x.fit) (hd:LedIn w w.heap.size x exL2) :
 Calls Tryz.prog 25 #[.agg #[.slice x.pA x.pn x.pc,.slice x.rA x.rn x.rc,.slice x.tA x.tn x.tc,.slice x.sA x.sn x.sc],.int .i64 80] w (RetK [30,31] 2 w):=by
 have h:=p_Clash exL2 x 80 w hf hd
 rw [ex2_clash] at h
 exact h.mono fun _ _ h=>h.k rfl
theorem s_Where (x:Lsl) (w:World) (hf:x.fit) (hd:LedIn w w.heap.size x exL2) :
 Calls Tryz.prog 36 #[.agg #[.slice x.pA x.pn x.pc,.slice x.rA x.rn x.rc,.slice x.tA x.tn x.tc,.slice x.sA x.sn x.sc],.agg #[.int .i64 1,.int .i64 1],.int .i64 24,.int .i64 60] w (RetK [0,5] 2 w):=by
 have h:=p_WhereX exL2 x 1 1 24 60 w hf hd (by decide)
 rw [ex2_where] at h
 exact h.mono fun _ _ h=>h.k rfl
theorem s_Whole (x:Lsl) (w:World) (hf:x.fit) (hd:LedIn w w.heap.size x exL2) :
 Calls Tryz.prog 38 #[.agg #[.slice x.pA x.pn x.pc,.slice x.rA x.rn x.rc,.slice x.tA x.tn x.tc,.slice x.sA x.sn x.sc],.int .i64 1,.int .i64 30,.int .i64 60] w (fun e w'=>e=.returned (.tuple #[.int .i64 2,.int .i64 0])∧Below w.heap.size w w'):=by
 have h:=p_WholeX exL2 x 1 30 60 w hf hd
 rw [ex2_whole] at h
 exact h
theorem s_Lies (x:Lsl) (w:World) (hf:x.fit) (hd:LedIn w w.heap.size x exL2) :
 Calls Tryz.prog 40 #[.agg #[.slice x.pA x.pn x.pc,.slice x.rA x.rn x.rc,.slice x.tA x.tn x.tc,.slice x.sA x.sn x.sc],.int .i64 10,.int .i64 40,.int .i64 60] w (fun e w'=>e=.returned (.tuple #[.int .i64 0,.int .i64 0])∧Below w.heap.size w w'):=by
 have h:=p_Lies exL2 x 10 40 60 w hf hd
 rw [ex2_lies] at h
 exact h
theorem s_Has (x:Lsl) (w:World) (hf:x.fit) (hd:LedIn w w.heap.size x exL2) :
 Calls Tryz.prog 42 #[.agg #[.slice x.pA x.pn x.pc,.slice x.rA x.rn x.rc,.slice x.tA x.tn x.tc,.slice x.sA x.sn x.sc],.int .i64 5,.int .i64 19,.int .i64 60] w (RetKF [(1,1),(1,2)] 2 w):=by
 have h:=p_HasX exL2 x 5 19 60 w hf hd
 rw [ex2_has] at h
 exact h.mono fun _ _ h=>h.k rfl
theorem s_Moved (x:Lsl) (w:World) (hf:x.fit) (hd:LedIn w w.heap.size x exL2) :
 Calls Tryz.prog 49 #[.agg #[.slice x.pA x.pn x.pc,.slice x.rA x.rn x.rc,.slice x.tA x.tn x.tc,.slice x.sA x.sn x.sc],.int .i64 20,.int .i64 30,.int .i64 60] w (RetKF [(1,1),(1,2),(1,3),(2,1)] 4 w):=by
 have h:=p_MovedX exL2 x 20 30 60 w hf hd
 rw [ex2_moved] at h
 exact h.mono fun _ _ h=>h.k rfl
theorem s_Placed (x:Lsl) (D:Option Addr) (c0:Nat) (w:World) (hf:x.fit) (hd:LedIn w w.heap.size x exL2) (hy:Is w w.heap.size D 2 [25,30]) :
 Calls Tryz.prog 47 #[.agg #[.slice x.pA x.pn x.pc,.slice x.rA x.rn x.rc,.slice x.tA x.tn x.tc,.slice x.sA x.sn x.sc],.slice D 2 c0,.int .i64 1,.int .i64 27,.int .i64 60] w (RetK [0,0,5] 3 w):=by
 have h:=p_PlacedX exL2 x [25,30] D 2 c0 1 27 60 w hf hd (by decide) hy
 rw [ex2_placed] at h
 exact h.mono fun _ _ h=>h.k rfl
theorem s_True (x:Lsl) (D:Option Addr) (c0:Nat) (w:World) (hf:x.fit) (hd:LedIn w w.heap.size x exL2) (hy:Is w w.heap.size D 2 [41,11]) :
 Calls Tryz.prog 51 #[.agg #[.slice x.pA x.pn x.pc,.slice x.rA x.rn x.rc,.slice x.tA x.tn x.tc,.slice x.sA x.sn x.sc],.int .i64 60,.slice D 2 c0] w (fun e w'=>e=.returned (.int .i64 29)∧Below w.heap.size w w'):=by
 have h:=p_CheckTrue exL2 x 60 [41,11] D 2 c0 w hf hd (by decide) hy
 rw [ex2_true] at h
 exact h
set_option maxRecDepth 100000 in
set_option maxHeartbeats 8000000 in
theorem r_sane2 (w:World) :
 Calls Tryz.prog 20 #[] w fun e w'=>e=.returned (.bool true)∧Below w.heap.size w w':=by
 go_enter Tryz.func20,Tryz.ntmps20
 go_wp2_with fail
 refine (r_ledger _).mono ?_
 rintro e w1 ⟨⟨pA,pn,pc,rA,rn,rc,tA,tn,tc,sA,sn,sc⟩,rfl,hb1,hf,hd1⟩
 have HB1:Below w.heap.size w w1:=hb1
 have HD:=Lib.hid hd1
 have HF:=Lib.hid hf
 have bL:=BoxA.new w1 27 #[.slice pA pn pc,.slice rA rn rc,.slice tA tn tc,.slice sA sn sc]
 clear hd1 hb1 hf
 go_wp2_with fail
 refine (s_Double ⟨pA,pn,pc,rA,rn,rc,tA,tn,tc,sA,sn,sc⟩ _ HF.out (HD.out.now (by exact bel_))).mono ?_
 rintro e w2 ⟨A2,c2,rfl,hb,hi⟩
 have HQ:Below w1.heap.size w1 w2:=Below.then_ (by exact bel_) hb
 have HB2:Below w.heap.size w w2:=Below.then_ HB1 HQ
 replace HD:=Lib.hid (HD.out.now HQ)
 replace bL:=bL.ext hb
 have kL:=bL.cell
 have zL:=bL.lt
 have J2:=Lib.hid hi
 clear hi
 clear hb HB1 HQ
 go_wp2_with fail
 refine (s_Days ⟨pA,pn,pc,rA,rn,rc,tA,tn,tc,sA,sn,sc⟩ _ HF.out (HD.out.now (by exact bel_))).mono ?_
 rintro e w3 ⟨rfl,hb⟩
 have HQ:Below w2.heap.size w2 w3:=Below.then_ (by exact bel_) hb
 have HB3:Below w.heap.size w w3:=Below.then_ HB2 HQ
 replace HD:=Lib.hid (HD.out.now HQ)
 replace bL:=bL.ext HQ
 replace kL:=bL.cell
 replace zL:=bL.lt
 replace J2:=Lib.hid (J2.out.now HQ)
 clear hb HB2 HQ
 go_wp2_with fail
 refine (s_Clash ⟨pA,pn,pc,rA,rn,rc,tA,tn,tc,sA,sn,sc⟩ _ HF.out (HD.out.now (by exact bel_))).mono ?_
 rintro e w4 ⟨A4,c4,rfl,hb,hi⟩
 have HQ:Below w3.heap.size w3 w4:=Below.then_ (by exact bel_) hb
 have HB4:Below w.heap.size w w4:=Below.then_ HB3 HQ
 replace HD:=Lib.hid (HD.out.now HQ)
 replace bL:=bL.ext HQ
 replace kL:=bL.cell
 replace zL:=bL.lt
 replace J2:=Lib.hid (J2.out.now HQ)
 have bR:=(BoxA.new w3 34 #[.int .i64 26,.int .i64 40]).ext hb
 have r0:=bR.cell 0
 have r1:=bR.cell 1
 have zR:=bR.lt
 have J4:=Lib.hid hi
 clear hi
 clear hb HB3 HQ
 go_wp2_with fail
 refine (s_Where ⟨pA,pn,pc,rA,rn,rc,tA,tn,tc,sA,sn,sc⟩ _ HF.out (HD.out.now (by exact bel_))).mono ?_
 rintro e w5 ⟨A5,c5,rfl,hb,hi⟩
 have HQ:Below w4.heap.size w4 w5:=Below.then_ (by exact bel_) hb
 have HB5:Below w.heap.size w w5:=Below.then_ HB4 HQ
 replace HD:=Lib.hid (HD.out.now HQ)
 replace bL:=bL.ext HQ
 replace kL:=bL.cell
 replace zL:=bL.lt
 replace J2:=Lib.hid (J2.out.now HQ)
 replace bR:=bR.ext HQ
 replace r0:=bR.cell 0
 replace r1:=bR.cell 1
 replace zR:=bR.lt
 replace J4:=Lib.hid (J4.out.now HQ)
 have J5:=Lib.hid hi
 clear hi
 clear hb HB4 HQ
 go_wp2_with fail
 refine (s_Whole ⟨pA,pn,pc,rA,rn,rc,tA,tn,tc,sA,sn,sc⟩ _ HF.out (HD.out.now (by exact bel_))).mono ?_
 rintro e w6 ⟨rfl,hb⟩
 have HQ:Below w5.heap.size w5 w6:=Below.then_ (by exact bel_) hb
 have HB6:Below w.heap.size w w6:=Below.then_ HB5 HQ
 replace HD:=Lib.hid (HD.out.now HQ)
 replace bL:=bL.ext HQ
 replace kL:=bL.cell
 replace zL:=bL.lt
 replace J2:=Lib.hid (J2.out.now HQ)
 replace bR:=bR.ext HQ
 replace r0:=bR.cell 0
 replace r1:=bR.cell 1
 replace zR:=bR.lt
 replace J4:=Lib.hid (J4.out.now HQ)
 replace J5:=Lib.hid (J5.out.now HQ)
 clear hb HB5 HQ
 go_wp2_with fail
 refine (s_Lies ⟨pA,pn,pc,rA,rn,rc,tA,tn,tc,sA,sn,sc⟩ _ HF.out (HD.out.now (by exact bel_))).mono ?_
 rintro e w7 ⟨rfl,hb⟩
 have HQ:Below w6.heap.size w6 w7:=Below.then_ (by exact bel_) hb
 have HB7:Below w.heap.size w w7:=Below.then_ HB6 HQ
 replace HD:=Lib.hid (HD.out.now HQ)
 replace bL:=bL.ext HQ
 replace kL:=bL.cell
 replace zL:=bL.lt
 replace J2:=Lib.hid (J2.out.now HQ)
 replace bR:=bR.ext HQ
 replace r0:=bR.cell 0
 replace r1:=bR.cell 1
 replace zR:=bR.lt
 replace J4:=Lib.hid (J4.out.now HQ)
 replace J5:=Lib.hid (J5.out.now HQ)
 clear hb HB6 HQ
 go_wp2_with fail
 refine (s_Has ⟨pA,pn,pc,rA,rn,rc,tA,tn,tc,sA,sn,sc⟩ _ HF.out (HD.out.now (by exact bel_))).mono ?_
 rintro e w8 ⟨A8,c8,rfl,hb,hi⟩
 have HQ:Below w7.heap.size w7 w8:=Below.then_ (by exact bel_) hb
 have HB8:Below w.heap.size w w8:=Below.then_ HB7 HQ
 replace HD:=Lib.hid (HD.out.now HQ)
 replace bL:=bL.ext HQ
 replace kL:=bL.cell
 replace zL:=bL.lt
 replace J2:=Lib.hid (J2.out.now HQ)
 replace bR:=bR.ext HQ
 replace r0:=bR.cell 0
 replace r1:=bR.cell 1
 replace zR:=bR.lt
 replace J4:=Lib.hid (J4.out.now HQ)
 replace J5:=Lib.hid (J5.out.now HQ)
 have J8:=Lib.hid hi
 clear hi
 clear hb HB7 HQ
 go_wp2_with fail
 refine (s_Placed ⟨pA,pn,pc,rA,rn,rc,tA,tn,tc,sA,sn,sc⟩ _ _ _ HF.out (HD.out.now (by exact bel_)) (Rd.new _ #[.int .i64 25,.int .i64 30] _ 1 2 _ (by simp) rfl)).mono ?_
 rintro e w9 ⟨A9,c9,rfl,hb,hi⟩
 have HQ:Below w8.heap.size w8 w9:=Below.then_ (by exact bel_) hb
 have HB9:Below w.heap.size w w9:=Below.then_ HB8 HQ
 replace HD:=Lib.hid (HD.out.now HQ)
 replace bL:=bL.ext HQ
 replace kL:=bL.cell
 replace zL:=bL.lt
 replace J2:=Lib.hid (J2.out.now HQ)
 replace bR:=bR.ext HQ
 replace r0:=bR.cell 0
 replace r1:=bR.cell 1
 replace zR:=bR.lt
 replace J4:=Lib.hid (J4.out.now HQ)
 replace J5:=Lib.hid (J5.out.now HQ)
 replace J8:=Lib.hid (J8.out.now abF HQ)
 have J9:=Lib.hid hi
 clear hi
 clear hb HB8 HQ
 go_wp2_with fail
 refine (s_Moved ⟨pA,pn,pc,rA,rn,rc,tA,tn,tc,sA,sn,sc⟩ _ HF.out (HD.out.now (by exact bel_))).mono ?_
 rintro e w10 ⟨A10,c10,rfl,hb,hi⟩
 have HQ:Below w9.heap.size w9 w10:=Below.then_ (by exact bel_) hb
 have HB10:Below w.heap.size w w10:=Below.then_ HB9 HQ
 replace HD:=Lib.hid (HD.out.now HQ)
 replace bL:=bL.ext HQ
 replace kL:=bL.cell
 replace zL:=bL.lt
 replace J2:=Lib.hid (J2.out.now HQ)
 replace bR:=bR.ext HQ
 replace r0:=bR.cell 0
 replace r1:=bR.cell 1
 replace zR:=bR.lt
 replace J4:=Lib.hid (J4.out.now HQ)
 replace J5:=Lib.hid (J5.out.now HQ)
 replace J8:=Lib.hid (J8.out.now abF HQ)
 replace J9:=Lib.hid (J9.out.now HQ)
 clear hi
 clear hb HB9 HQ
 go_wp2_with fail
 refine (r_Same2 [10,11] [10,11] true _ _ 2 _ 2 _ _ (by decide) (by decide) (J2.out.now (by exact bel_)) (Rd.new _ #[.int .i64 10,.int .i64 11] _ 1 2 _ (by simp) rfl) (by decide)).mono ?_
 rintro e w11 ⟨rfl,hb⟩
 have HQ:Below w10.heap.size w10 w11:=Below.then_ (by exact bel_) hb
 have HB11:Below w.heap.size w w11:=Below.then_ HB10 HQ
 replace HD:=Lib.hid (HD.out.now HQ)
 replace bL:=bL.ext HQ
 replace kL:=bL.cell
 replace zL:=bL.lt
 replace bR:=bR.ext HQ
 replace r0:=bR.cell 0
 replace r1:=bR.cell 1
 replace zR:=bR.lt
 replace J4:=Lib.hid (J4.out.now HQ)
 replace J5:=Lib.hid (J5.out.now HQ)
 replace J8:=Lib.hid (J8.out.now abF HQ)
 replace J9:=Lib.hid (J9.out.now HQ)
 clear hb HB10 HQ
 go_wp2_with fail
 refine (r_Same2 [30,31] [30,31] true _ _ 2 _ 2 _ _ (by decide) (by decide) (J4.out.now (by exact bel_)) (Rd.new _ #[.int .i64 30,.int .i64 31] _ 1 2 _ (by simp) rfl) (by decide)).mono ?_
 rintro e w12 ⟨rfl,hb⟩
 have HQ:Below w11.heap.size w11 w12:=Below.then_ (by exact bel_) hb
 have HB12:Below w.heap.size w w12:=Below.then_ HB11 HQ
 replace HD:=Lib.hid (HD.out.now HQ)
 replace bL:=bL.ext HQ
 replace kL:=bL.cell
 replace zL:=bL.lt
 replace J5:=Lib.hid (J5.out.now HQ)
 replace J8:=Lib.hid (J8.out.now abF HQ)
 replace J9:=Lib.hid (J9.out.now HQ)
 clear hb HB11 HQ
 go_wp2_with fail
 refine (r_Same2 [0,5] [0,5] true _ _ 2 _ 2 _ _ (by decide) (by decide) (J5.out.now (by exact bel_)) (Rd.new _ #[.int .i64 0,.int .i64 5] _ 1 2 _ (by simp) rfl) (by decide)).mono ?_
 rintro e w13 ⟨rfl,hb⟩
 have HQ:Below w12.heap.size w12 w13:=Below.then_ (by exact bel_) hb
 have HB13:Below w.heap.size w w13:=Below.then_ HB12 HQ
 replace HD:=Lib.hid (HD.out.now HQ)
 replace bL:=bL.ext HQ
 replace kL:=bL.cell
 replace zL:=bL.lt
 replace J8:=Lib.hid (J8.out.now abF HQ)
 replace J9:=Lib.hid (J9.out.now HQ)
 clear hb HB12 HQ
 go_wp2_with fail
 refine (r_SameFols [(1,1),(1,2)] [(1,1),(1,2)] true _ _ 2 _ 2 _ _ (by decide) (by decide) (J8.out.now abF (by exact bel_)) ((BoxA.new _ 60 #[.int .i64 1,.int .i64 1,.int .i64 1,.int .i64 2]).sqF (P:=[(1,1),(1,2)]) rfl (by simp)) (by decide)).mono ?_
 rintro e w14 ⟨rfl,hb⟩
 have HQ:Below w13.heap.size w13 w14:=Below.then_ (by exact bel_) hb
 have HB14:Below w.heap.size w w14:=Below.then_ HB13 HQ
 replace HD:=Lib.hid (HD.out.now HQ)
 replace bL:=bL.ext HQ
 replace kL:=bL.cell
 replace zL:=bL.lt
 replace J9:=Lib.hid (J9.out.now HQ)
 clear hb HB13 HQ
 go_wp2_with fail
 refine (r_Same2 [0,0,5] [0,0,5] true _ _ 3 _ 3 _ _ (by decide) (by decide) (J9.out.now (by exact bel_)) (Rd.new _ #[.int .i64 0,.int .i64 0,.int .i64 5] _ 1 3 _ (by simp) rfl) (by decide)).mono ?_
 rintro e w15 ⟨rfl,hb⟩
 have HQ:Below w14.heap.size w14 w15:=Below.then_ (by exact bel_) hb
 have HB15:Below w.heap.size w w15:=Below.then_ HB14 HQ
 replace HD:=Lib.hid (HD.out.now HQ)
 replace bL:=bL.ext HQ
 replace kL:=bL.cell
 replace zL:=bL.lt
 clear hb HB14 HQ
 go_wp2_with fail
 refine (s_True ⟨pA,pn,pc,rA,rn,rc,tA,tn,tc,sA,sn,sc⟩ _ _ _ HF.out (HD.out.now (by exact bel_)) (Rd.new _ #[.int .i64 41,.int .i64 11] _ 1 2 _ (by simp) rfl)).mono ?_
 rintro e w16 ⟨rfl,hb⟩
 have HQ:Below w15.heap.size w15 w16:=Below.then_ (by exact bel_) hb
 have HB16:Below w.heap.size w w16:=Below.then_ HB15 HQ
 replace HD:=Lib.hid (HD.out.now HQ)
 replace bL:=bL.ext HQ
 replace kL:=bL.cell
 replace zL:=bL.lt
 clear hb HB15 HQ
 go_wp2_with fail
 go_ret
 exact ⟨rfl,HB16⟩
end Go.Proofs.YtoiompoapikkbaaGreat
/- LoanWheres: Days, Where, Whole, Lies, Has and May agree with the reference. -/
namespace Go.Proofs.YtoiompoapikkbaaGreat
open Go.RowKit Go.Maps
theorem p_Days_w (l:Led) (x:Lsl) (day kn pap leaf per src:Int) (p1 p2 v:Int) (w:World) (hf:x.fit) (hd:LedIn w w.heap.size x l) (h:daysX l src kn=((p1,p2),v)) :
 Calls Tryz.prog 34 #[.agg #[.slice x.pA x.pn x.pc,.slice x.rA x.rn x.rc,.slice x.tA x.tn x.tc,.slice x.sA x.sn x.sc],.int .i64 src,.int .i64 kn] w (fun e w'=>e=.returned (.tuple #[.agg #[.int .i64 p1,.int .i64 p2],.int .i64 v])∧Below w.heap.size w w'):=by
 have hc:=p_Days2 l x src kn w hf hd
 rw [h] at hc
 exact hc
theorem r_Days_w (l:Led) (x:Lsl) (day kn pap leaf per src:Int) (p1 p2 v:Int) (w:World) (hf:x.fit) (hd:LedIn w w.heap.size x l) (h:daysX l src kn=((p1,p2),v)) :
 Calls Tryz.prog 35 #[.agg #[.slice x.pA x.pn x.pc,.slice x.rA x.rn x.rc,.slice x.tA x.tn x.tc,.slice x.sA x.sn x.sc],.agg #[.int .i64 day,.int .i64 kn,.int .i64 pap,.int .i64 leaf,.int .i64 per,.int .i64 src]] w (fun e w'=>e=.returned (.tuple #[.agg #[.int .i64 p1,.int .i64 p2],.int .i64 v])∧Below w.heap.size w w'):=by
 have hc:=r_Days l x day kn pap leaf per src w hf hd
 rw [h] at hc
 exact hc
theorem p_Where_w (l:Led) (x:Lsl) (day kn pap leaf per src:Int) (p:List Int) (v:Int) (w:World) (hf:x.fit) (hd:LedIn w w.heap.size x l) (hwl:(Lit.int .i64 leaf).wf=true) (h:whereX l pap leaf day kn=(p,v)) :
 Calls Tryz.prog 36 #[.agg #[.slice x.pA x.pn x.pc,.slice x.rA x.rn x.rc,.slice x.tA x.tn x.tc,.slice x.sA x.sn x.sc],.agg #[.int .i64 pap,.int .i64 leaf],.int .i64 day,.int .i64 kn] w (RetLE (p,v) w):=by
 have hc:=p_WhereX l x pap leaf day kn w hf hd hwl
 rw [h] at hc
 exact hc
theorem r_Where_w (l:Led) (x:Lsl) (day kn pap leaf per src:Int) (p:List Int) (v:Int) (w:World) (hf:x.fit) (hd:LedIn w w.heap.size x l) (h:whereX l pap leaf day kn=(p,v)) :
 Calls Tryz.prog 37 #[.agg #[.slice x.pA x.pn x.pc,.slice x.rA x.rn x.rc,.slice x.tA x.tn x.tc,.slice x.sA x.sn x.sc],.agg #[.int .i64 day,.int .i64 kn,.int .i64 pap,.int .i64 leaf,.int .i64 per,.int .i64 src]] w (RetLE (p,v) w):=by
 have hc:=r_Where l x day kn pap leaf per src w hf hd
 rw [h] at hc
 exact hc
theorem p_Whole_w (l:Led) (x:Lsl) (day kn pap leaf per src:Int) (p v:Int) (w:World) (hf:x.fit) (hd:LedIn w w.heap.size x l) (h:wholeX l pap day kn=(p,v)) :
 Calls Tryz.prog 38 #[.agg #[.slice x.pA x.pn x.pc,.slice x.rA x.rn x.rc,.slice x.tA x.tn x.tc,.slice x.sA x.sn x.sc],.int .i64 pap,.int .i64 day,.int .i64 kn] w (fun e w'=>e=.returned (.tuple #[.int .i64 p,.int .i64 v])∧Below w.heap.size w w'):=by
 have hc:=p_WholeX l x pap day kn w hf hd
 rw [h] at hc
 exact hc
theorem r_Whole_w (l:Led) (x:Lsl) (day kn pap leaf per src:Int) (p v:Int) (w:World) (hf:x.fit) (hd:LedIn w w.heap.size x l) (h:wholeX l pap day kn=(p,v)) :
 Calls Tryz.prog 39 #[.agg #[.slice x.pA x.pn x.pc,.slice x.rA x.rn x.rc,.slice x.tA x.tn x.tc,.slice x.sA x.sn x.sc],.agg #[.int .i64 day,.int .i64 kn,.int .i64 pap,.int .i64 leaf,.int .i64 per,.int .i64 src]] w (fun e w'=>e=.returned (.tuple #[.int .i64 p,.int .i64 v])∧Below w.heap.size w w'):=by
 have hc:=r_Whole l x day kn pap leaf per src w hf hd
 rw [h] at hc
 exact hc
theorem p_Lies_w (l:Led) (x:Lsl) (day kn pap leaf per src:Int) (p v:Int) (w:World) (hf:x.fit) (hd:LedIn w w.heap.size x l) (h:liesX l src day kn=(p,v)) :
 Calls Tryz.prog 40 #[.agg #[.slice x.pA x.pn x.pc,.slice x.rA x.rn x.rc,.slice x.tA x.tn x.tc,.slice x.sA x.sn x.sc],.int .i64 src,.int .i64 day,.int .i64 kn] w (fun e w'=>e=.returned (.tuple #[.int .i64 p,.int .i64 v])∧Below w.heap.size w w'):=by
 have hc:=p_Lies l x src day kn w hf hd
 rw [h] at hc
 exact hc
theorem r_Lies_w (l:Led) (x:Lsl) (day kn pap leaf per src:Int) (p v:Int) (w:World) (hf:x.fit) (hd:LedIn w w.heap.size x l) (h:liesX l src day kn=(p,v)) :
 Calls Tryz.prog 41 #[.agg #[.slice x.pA x.pn x.pc,.slice x.rA x.rn x.rc,.slice x.tA x.tn x.tc,.slice x.sA x.sn x.sc],.agg #[.int .i64 day,.int .i64 kn,.int .i64 pap,.int .i64 leaf,.int .i64 per,.int .i64 src]] w (fun e w'=>e=.returned (.tuple #[.int .i64 p,.int .i64 v])∧Below w.heap.size w w'):=by
 have hc:=r_Lies l x day kn pap leaf per src w hf hd
 rw [h] at hc
 exact hc
theorem p_Has_w (l:Led) (x:Lsl) (day kn pap leaf per src:Int) (p:List (Int × Int)) (v:Int) (w:World) (hf:x.fit) (hd:LedIn w w.heap.size x l) (h:leavesX (fun f=>decide (whL l kn day f=[per])) l per day kn=(p,v)) :
 Calls Tryz.prog 42 #[.agg #[.slice x.pA x.pn x.pc,.slice x.rA x.rn x.rc,.slice x.tA x.tn x.tc,.slice x.sA x.sn x.sc],.int .i64 per,.int .i64 day,.int .i64 kn] w (RetFE (p,v) w):=by
 have hc:=p_HasX l x per day kn w hf hd
 rw [h] at hc
 exact hc
theorem r_Has_w (l:Led) (x:Lsl) (day kn pap leaf per src:Int) (p:List (Int × Int)) (v:Int) (w:World) (hf:x.fit) (hd:LedIn w w.heap.size x l) (h:leavesX (fun f=>decide (whL l kn day f=[per])) l per day kn=(p,v)) :
 Calls Tryz.prog 43 #[.agg #[.slice x.pA x.pn x.pc,.slice x.rA x.rn x.rc,.slice x.tA x.tn x.tc,.slice x.sA x.sn x.sc],.agg #[.int .i64 day,.int .i64 kn,.int .i64 pap,.int .i64 leaf,.int .i64 per,.int .i64 src]] w (RetFE (p,v) w):=by
 have hc:=r_Sure l x day kn pap leaf per src w hf hd
 rw [h] at hc
 exact hc
theorem p_May_w (l:Led) (x:Lsl) (day kn pap leaf per src:Int) (p:List (Int × Int)) (v:Int) (w:World) (hf:x.fit) (hd:LedIn w w.heap.size x l) (h:leavesX (fun f=>decide (per∈whL l kn day f)) l per day kn=(p,v)) :
 Calls Tryz.prog 44 #[.agg #[.slice x.pA x.pn x.pc,.slice x.rA x.rn x.rc,.slice x.tA x.tn x.tc,.slice x.sA x.sn x.sc],.int .i64 per,.int .i64 day,.int .i64 kn] w (RetFE (p,v) w):=by
 have hc:=p_MayX l x per day kn w hf hd
 rw [h] at hc
 exact hc
theorem r_May_w (l:Led) (x:Lsl) (day kn pap leaf per src:Int) (p:List (Int × Int)) (v:Int) (w:World) (hf:x.fit) (hd:LedIn w w.heap.size x l) (h:leavesX (fun f=>decide (per∈whL l kn day f)) l per day kn=(p,v)) :
 Calls Tryz.prog 45 #[.agg #[.slice x.pA x.pn x.pc,.slice x.rA x.rn x.rc,.slice x.tA x.tn x.tc,.slice x.sA x.sn x.sc],.agg #[.int .i64 day,.int .i64 kn,.int .i64 pap,.int .i64 leaf,.int .i64 per,.int .i64 src]] w (RetFE (p,v) w):=by
 have hc:=r_May l x day kn pap leaf per src w hf hd
 rw [h] at hc
 exact hc
theorem whereX_len {l:Led} {pap leaf day kn v:Int} {p:List Int} (h:whereX l pap leaf day kn=(p,v)):p.length≤1000000:=by
 unfold whereX at h
 split at h
 ·split at h
  ·cases h
   have:=whL_len l kn day (pap,leaf)
   omega
  ·cases h;simp
 ·cases h;simp
theorem leavesX_len {q:Int × Int→Bool} {l:Led} {per day kn v:Int} {p:List (Int × Int)} (h:leavesX q l per day kn=(p,v)):p.length≤1000000:=by
 unfold leavesX at h
 split at h
 ·rename_i hv
  split at h
  ·cases h
   have h1:=List.length_filter_le q (folL l.pp)
   have h2:=folL_len (led_ok (preP_zero hv))
   omega
  ·cases h;simp
 ·cases h;simp
set_option maxRecDepth 10000 in
set_option maxHeartbeats 8000000 in
theorem w_LoanWheres (l:Led) (x:Lsl) (day kn pap leaf per src:Int) (w:World) (hf:x.fit) (hd:LedIn w w.heap.size x l) (hwf:(Lit.int .i64 leaf).wf=true) :
 Calls Tryz.prog 5 #[.agg #[.slice x.pA x.pn x.pc,.slice x.rA x.rn x.rc,.slice x.tA x.tn x.tc,.slice x.sA x.sn x.sc],.agg #[.int .i64 day,.int .i64 kn,.int .i64 pap,.int .i64 leaf,.int .i64 per,.int .i64 src]] w fun e w'=>e=.returned (.bool true)∧Below w.heap.size w w':=by
 obtain ⟨pA,pn,pc,rA,rn,rc,tA,tn,tc,sA,sn,sc⟩:=x
 have HD:=Lib.hid hd
 have HF:=Lib.hid hf
 clear hd hf
 obtain ⟨⟨⟨b1,b2⟩,e1⟩,h1⟩:∃ p,daysX l src kn=p:=⟨_,rfl⟩
 obtain ⟨⟨wl,e2⟩,h2⟩:∃ p,whereX l pap leaf day kn=p:=⟨_,rfl⟩
 obtain ⟨⟨wh,e3⟩,h3⟩:∃ p,wholeX l pap day kn=p:=⟨_,rfl⟩
 obtain ⟨⟨li,e4⟩,h4⟩:∃ p,liesX l src day kn=p:=⟨_,rfl⟩
 obtain ⟨⟨hl,e5⟩,h5⟩:∃ p,leavesX (fun f=>decide (whL l kn day f=[per])) l per day kn=p:=⟨_,rfl⟩
 obtain ⟨⟨ml,e6⟩,h6⟩:∃ p,leavesX (fun f=>decide (per∈whL l kn day f)) l per day kn=p:=⟨_,rfl⟩
 have HDL:=Lib.hid h1
 have HWL:=Lib.hid h2
 have HHL:=Lib.hid h3
 have HLL:=Lib.hid h4
 have HSL:=Lib.hid h5
 have HML:=Lib.hid h6
 have lw:=whereX_len h2
 have lh:=leavesX_len h5
 have lm:=leavesX_len h6
 clear h1 h2 h3 h4 h5 h6
 go_enter Tryz.func5,Tryz.ntmps5
 go_wp2_with fail
 refine (p_Days_w l ⟨pA,pn,pc,rA,rn,rc,tA,tn,tc,sA,sn,sc⟩ day kn pap leaf per src b1 b2 e1 _ HF.out (HD.out.now (by exact bel_)) HDL.out).mono ?_
 rintro e w1 ⟨rfl,hb1⟩
 have HB1:Below w.heap.size w w1:=Below.then_ (by exact bel_) hb1
 have hs1:=HB1.size
 have bL1:=(box2 w 27 62 #[.slice pA pn pc,.slice rA rn rc,.slice tA tn tc,.slice sA sn sc] #[.int .i64 day,.int .i64 kn,.int .i64 pap,.int .i64 leaf,.int .i64 per,.int .i64 src]).1.ext hb1
 have bA1:=(box2 w 27 62 #[.slice pA pn pc,.slice rA rn rc,.slice tA tn tc,.slice sA sn sc] #[.int .i64 day,.int .i64 kn,.int .i64 pap,.int .i64 leaf,.int .i64 per,.int .i64 src]).2.ext hb1
 have kL1:=bL1.cell
 have zL1:=bL1.lt
 have kA1:=bA1.cell
 have zA1:=bA1.lt
 clear hb1
 go_wp2_with fail
 refine (r_Days_w l ⟨pA,pn,pc,rA,rn,rc,tA,tn,tc,sA,sn,sc⟩ day kn pap leaf per src b1 b2 e1 _ HF.out (HD.out.now (by exact bel_)) HDL.out).mono ?_
 rintro e w2 ⟨rfl,hb2⟩
 have HB2:Below w.heap.size w w2:=Below.then_ (by exact bel_) hb2
 have hs2:=HB2.size
 have bL2:=(bL1.alloc _).ext hb2
 have bA2:=(bA1.alloc _).ext hb2
 have bX2:=(BoxA.new w1 34 #[.int .i64 b1,.int .i64 b2]).ext hb2
 clear kL1 zL1 kA1 zA1 bL1 bA1
 have kL2:=bL2.cell
 have zL2:=bL2.lt
 have kA2:=bA2.cell
 have zA2:=bA2.lt
 clear hb2
 go_wp2_with fail
 refine (p_Where_w l ⟨pA,pn,pc,rA,rn,rc,tA,tn,tc,sA,sn,sc⟩ day kn pap leaf per src wl e2 _ HF.out (HD.out.now (by exact bel_)) hwf HWL.out).mono ?_
 rintro e w3 ⟨A3,n3,c3,rfl,hb3,hi3,-⟩
 have HI3:Hid (Is w3 w3.heap.size A3 n3 wl):=by show Is _ _ _ _ _;exact hi3
 clear hi3
 have HB3:Below w.heap.size w w3:=Below.then_ (by exact bel_) hb3
 have hs3:=HB3.size
 have bL3:=(bL2.alloc _).ext hb3
 have bA3:=(bA2.alloc _).ext hb3
 have bX3:=(bX2.alloc _).ext hb3
 have bY3:=(BoxA.new w2 34 #[.int .i64 b1,.int .i64 b2]).ext hb3
 clear bX2
 clear kL2 zL2 kA2 zA2 bL2 bA2
 have kL3:=bL3.cell
 have zL3:=bL3.lt
 have kA3:=bA3.cell
 have zA3:=bA3.lt
 clear hb3
 go_wp2_with fail
 refine (r_Where_w l ⟨pA,pn,pc,rA,rn,rc,tA,tn,tc,sA,sn,sc⟩ day kn pap leaf per src wl e2 _ HF.out (HD.out.now (by exact bel_)) HWL.out).mono ?_
 rintro e w4 ⟨A4,n4,c4,rfl,hb4,hi4,-⟩
 have HI4:Hid (Is w4 w4.heap.size A4 n4 wl):=by show Is _ _ _ _ _;exact hi4
 clear hi4
 have HB4:Below w.heap.size w w4:=Below.then_ (by exact bel_) hb4
 have hs4:=HB4.size
 have HI3:=Lib.hid (HI3.out.now hb4)
 have bL4:=(bL3).ext hb4
 have bA4:=(bA3).ext hb4
 have bX4:=bX3.ext hb4
 have bY4:=bY3.ext hb4
 clear bX3 bY3
 clear kL3 zL3 kA3 zA3 bL3 bA3
 have kL4:=bL4.cell
 have zL4:=bL4.lt
 have kA4:=bA4.cell
 have zA4:=bA4.lt
 clear hb4
 go_wp2_with fail
 refine (p_Whole_w l ⟨pA,pn,pc,rA,rn,rc,tA,tn,tc,sA,sn,sc⟩ day kn pap leaf per src wh e3 _ HF.out (HD.out.now (by exact bel_)) HHL.out).mono ?_
 rintro e w5 ⟨rfl,hb5⟩
 have HB5:Below w.heap.size w w5:=Below.then_ (by exact bel_) hb5
 have hs5:=HB5.size
 have HI3:=Lib.hid (HI3.out.now hb5)
 have HI4:=Lib.hid (HI4.out.now hb5)
 have bL5:=(bL4).ext hb5
 have bA5:=(bA4).ext hb5
 have bX5:=bX4.ext hb5
 have bY5:=bY4.ext hb5
 clear bX4 bY4
 clear kL4 zL4 kA4 zA4 bL4 bA4
 have kL5:=bL5.cell
 have zL5:=bL5.lt
 have kA5:=bA5.cell
 have zA5:=bA5.lt
 clear hb5
 go_wp2_with fail
 refine (r_Whole_w l ⟨pA,pn,pc,rA,rn,rc,tA,tn,tc,sA,sn,sc⟩ day kn pap leaf per src wh e3 _ HF.out (HD.out.now (by exact bel_)) HHL.out).mono ?_
 rintro e w6 ⟨rfl,hb6⟩
 have HB6:Below w.heap.size w w6:=Below.then_ (by exact bel_) hb6
 have hs6:=HB6.size
 have HI3:=Lib.hid (HI3.out.now hb6)
 have HI4:=Lib.hid (HI4.out.now hb6)
 have bL6:=(bL5).ext hb6
 have bA6:=(bA5).ext hb6
 have bX6:=bX5.ext hb6
 have bY6:=bY5.ext hb6
 clear bX5 bY5
 clear kL5 zL5 kA5 zA5 bL5 bA5
 have kL6:=bL6.cell
 have zL6:=bL6.lt
 have kA6:=bA6.cell
 have zA6:=bA6.lt
 clear hb6
 go_wp2_with fail
 refine (p_Lies_w l ⟨pA,pn,pc,rA,rn,rc,tA,tn,tc,sA,sn,sc⟩ day kn pap leaf per src li e4 _ HF.out (HD.out.now (by exact bel_)) HLL.out).mono ?_
 rintro e w7 ⟨rfl,hb7⟩
 have HB7:Below w.heap.size w w7:=Below.then_ (by exact bel_) hb7
 have hs7:=HB7.size
 have HI3:=Lib.hid (HI3.out.now hb7)
 have HI4:=Lib.hid (HI4.out.now hb7)
 have bL7:=(bL6).ext hb7
 have bA7:=(bA6).ext hb7
 have bX7:=bX6.ext hb7
 have bY7:=bY6.ext hb7
 clear bX6 bY6
 clear kL6 zL6 kA6 zA6 bL6 bA6
 have kL7:=bL7.cell
 have zL7:=bL7.lt
 have kA7:=bA7.cell
 have zA7:=bA7.lt
 clear hb7
 go_wp2_with fail
 refine (r_Lies_w l ⟨pA,pn,pc,rA,rn,rc,tA,tn,tc,sA,sn,sc⟩ day kn pap leaf per src li e4 _ HF.out (HD.out.now (by exact bel_)) HLL.out).mono ?_
 rintro e w8 ⟨rfl,hb8⟩
 have HB8:Below w.heap.size w w8:=Below.then_ (by exact bel_) hb8
 have hs8:=HB8.size
 have HI3:=Lib.hid (HI3.out.now hb8)
 have HI4:=Lib.hid (HI4.out.now hb8)
 have bL8:=(bL7).ext hb8
 have bA8:=(bA7).ext hb8
 have bX8:=bX7.ext hb8
 have bY8:=bY7.ext hb8
 clear bX7 bY7
 clear kL7 zL7 kA7 zA7 bL7 bA7
 have kL8:=bL8.cell
 have zL8:=bL8.lt
 have kA8:=bA8.cell
 have zA8:=bA8.lt
 clear hb8
 go_wp2_with fail
 refine (p_Has_w l ⟨pA,pn,pc,rA,rn,rc,tA,tn,tc,sA,sn,sc⟩ day kn pap leaf per src hl e5 _ HF.out (HD.out.now (by exact bel_)) HSL.out).mono ?_
 rintro e w9 ⟨A9,n9,c9,rfl,hb9,hi9,hj9⟩
 have HI9:Hid (Sq QF 2 w9 w9.heap.size A9 n9 hl):=by show Sq _ _ _ _ _ _ _;exact sq_of_own hi9 hj9
 clear hi9 hj9
 have HB9:Below w.heap.size w w9:=Below.then_ (by exact bel_) hb9
 have hs9:=HB9.size
 have HI3:=Lib.hid (HI3.out.now hb9)
 have HI4:=Lib.hid (HI4.out.now hb9)
 have bL9:=(bL8).ext hb9
 have bA9:=(bA8).ext hb9
 have bX9:=bX8.ext hb9
 have bY9:=bY8.ext hb9
 clear bX8 bY8
 clear kL8 zL8 kA8 zA8 bL8 bA8
 have kL9:=bL9.cell
 have zL9:=bL9.lt
 have kA9:=bA9.cell
 have zA9:=bA9.lt
 clear hb9
 go_wp2_with fail
 refine (r_Has_w l ⟨pA,pn,pc,rA,rn,rc,tA,tn,tc,sA,sn,sc⟩ day kn pap leaf per src hl e5 _ HF.out (HD.out.now (by exact bel_)) HSL.out).mono ?_
 rintro e w10 ⟨A10,n10,c10,rfl,hb10,hi10,hj10⟩
 have HI10:Hid (Sq QF 2 w10 w10.heap.size A10 n10 hl):=by show Sq _ _ _ _ _ _ _;exact sq_of_own hi10 hj10
 clear hi10 hj10
 have HB10:Below w.heap.size w w10:=Below.then_ (by exact bel_) hb10
 have hs10:=HB10.size
 have HI3:=Lib.hid (HI3.out.now hb10)
 have HI4:=Lib.hid (HI4.out.now hb10)
 have HI9:=Lib.hid (HI9.out.now abF hb10)
 have bL10:=(bL9).ext hb10
 have bA10:=(bA9).ext hb10
 have bX10:=bX9.ext hb10
 have bY10:=bY9.ext hb10
 clear bX9 bY9
 clear kL9 zL9 kA9 zA9 bL9 bA9
 have kL10:=bL10.cell
 have zL10:=bL10.lt
 have kA10:=bA10.cell
 have zA10:=bA10.lt
 clear hb10
 go_wp2_with fail
 refine (p_May_w l ⟨pA,pn,pc,rA,rn,rc,tA,tn,tc,sA,sn,sc⟩ day kn pap leaf per src ml e6 _ HF.out (HD.out.now (by exact bel_)) HML.out).mono ?_
 rintro e w11 ⟨A11,n11,c11,rfl,hb11,hi11,hj11⟩
 have HI11:Hid (Sq QF 2 w11 w11.heap.size A11 n11 ml):=by show Sq _ _ _ _ _ _ _;exact sq_of_own hi11 hj11
 clear hi11 hj11
 have HB11:Below w.heap.size w w11:=Below.then_ (by exact bel_) hb11
 have hs11:=HB11.size
 have HI3:=Lib.hid (HI3.out.now hb11)
 have HI4:=Lib.hid (HI4.out.now hb11)
 have HI9:=Lib.hid (HI9.out.now abF hb11)
 have HI10:=Lib.hid (HI10.out.now abF hb11)
 have bL11:=(bL10).ext hb11
 have bA11:=(bA10).ext hb11
 have bX11:=bX10.ext hb11
 have bY11:=bY10.ext hb11
 clear bX10 bY10
 clear kL10 zL10 kA10 zA10 bL10 bA10
 have kL11:=bL11.cell
 have zL11:=bL11.lt
 have kA11:=bA11.cell
 have zA11:=bA11.lt
 clear hb11
 go_wp2_with fail
 refine (r_May_w l ⟨pA,pn,pc,rA,rn,rc,tA,tn,tc,sA,sn,sc⟩ day kn pap leaf per src ml e6 _ HF.out (HD.out.now (by exact bel_)) HML.out).mono ?_
 rintro e w12 ⟨A12,n12,c12,rfl,hb12,hi12,hj12⟩
 have HI12:Hid (Sq QF 2 w12 w12.heap.size A12 n12 ml):=by show Sq _ _ _ _ _ _ _;exact sq_of_own hi12 hj12
 clear hi12 hj12
 have HB12:Below w.heap.size w w12:=Below.then_ (by exact bel_) hb12
 have hs12:=HB12.size
 have HI3:=Lib.hid (HI3.out.now hb12)
 have HI4:=Lib.hid (HI4.out.now hb12)
 have HI9:=Lib.hid (HI9.out.now abF hb12)
 have HI10:=Lib.hid (HI10.out.now abF hb12)
 have HI11:=Lib.hid (HI11.out.now abF hb12)
 have bL12:=(bL11).ext hb12
 have bA12:=(bA11).ext hb12
 have bX12:=bX11.ext hb12
 have bY12:=bY11.ext hb12
 clear bX11 bY11
 clear kL11 zL11 kA11 zA11 bL11 bA11
 have kL12:=bL12.cell
 have zL12:=bL12.lt
 have kA12:=bA12.cell
 have zA12:=bA12.lt
 clear hb12
 have h3:n3≤1000000:=by have h:=HI3.out.len;omega
 have h4:n4≤1000000:=by have h:=HI4.out.len;omega
 have h9:n9≤1000000:=by have h:=HI9.out.len;omega
 have h10:n10≤1000000:=by have h:=HI10.out.len;omega
 have h11:n11≤1000000:=by have h:=HI11.out.len;omega
 have h12:n12≤1000000:=by have h:=HI12.out.len;omega
 have kX:=bX12.cell
 have zX:=bX12.lt
 have kY:=bY12.cell
 have zY:=bY12.lt
 clear kL12 zL12 kA12 zA12 bL12 bA12 bX12 bY12
 go_wp2_with (first | (go_at_call 29;refine (r_Same2 wl wl true A3 A4 n3 c3 n4 c4 _ h3 h4 HI3.out HI4.out (by simp)).mono ?_;rintro e w13 ⟨rfl,hb13⟩;have HB13:=Below.then_ HB12 hb13;have HI9:=Lib.hid (HI9.out.now abF hb13);have HI10:=Lib.hid (HI10.out.now abF hb13);have HI11:=Lib.hid (HI11.out.now abF hb13);have HI12:=Lib.hid (HI12.out.now abF hb13);have hs13:=HB13.size;clear hb13) | (go_at_call_of 46 (Value.slice A9 n9 c9);refine (r_SameFols hl hl true A9 A10 n9 c9 n10 c10 _ h9 h10 HI9.out HI10.out (by simp)).mono ?_;rintro e w14 ⟨rfl,hb14⟩;have HB14:=Below.then_ HB13 hb14;have HI11:=Lib.hid (HI11.out.now abF hb14);have HI12:=Lib.hid (HI12.out.now abF hb14);have hs14:=HB14.size;clear hb14) | (go_at_call_of 46 (Value.slice A11 n11 c11);refine (r_SameFols ml ml true A11 A12 n11 c11 n12 c12 _ h11 h12 HI11.out HI12.out (by simp)).mono ?_;rintro e w15 ⟨rfl,hb15⟩;have HB15:=Below.then_ HB14 hb15;have hs15:=HB15.size;clear hb15) | (go_at_call 20;refine (r_sane2 _).mono ?_;rintro e w16 ⟨rfl,hb16⟩;have HB16:=Below.then_ HB15 hb16))
 go_ret
 exact ⟨rfl,HB16⟩
end Go.Proofs.YtoiompoapikkbaaGreat
