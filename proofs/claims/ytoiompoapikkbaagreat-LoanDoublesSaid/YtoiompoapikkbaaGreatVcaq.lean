/- Layer 2 of the texts that LoanDoubles takes: Vcaq. -/
import Derived.Test.YtoiompoapikkbaaGreatVbzq
import Derived.Test.YtoiompoapikkbaaGreatVbsq
import Derived.Test.YtoiompoapikkbaaGreatVbtq
import Derived.Test.YtoiompoapikkbaaGreatVbuq
set_option linter.unusedVariables false
set_option linter.unusedSimpArgs false
/- Layer 2: sane, the chapter's example. -/
namespace Go.Proofs.YtoiompoapikkbaaGreat
open Go.RowKit Go.Maps
def RetK (xs:List Int) (n:Nat) (w:World) (e:Ending) (w':World):Prop:=∃ A c,e=.returned (.tuple #[.slice A n c,.int .i64 0])∧Below w.heap.size w w'∧Is w' w'.heap.size A n xs
theorem RetLE.k {xs:List Int} {n:Nat} {w w':World} {e:Ending} (hn:xs.length=n) (h:RetLE (xs,0) w e w'):RetK xs n w e w':=by
 obtain ⟨A,m,c,rfl,hb,hi,_,_⟩:=h
 have h1:xs.length=m:=hi.len
 obtain rfl:m=n:=by omega
 exact ⟨A,c,rfl,hb,hi⟩
def RetKF (xs:List (Int × Int)) (n:Nat) (w:World) (e:Ending) (w':World):Prop:=∃ A c,e=.returned (.tuple #[.slice A n c,.int .i64 0])∧Below w.heap.size w w'∧Sq QF 2 w' w'.heap.size A n xs
theorem RetFE.k {xs:List (Int × Int)} {n:Nat} {w w':World} {e:Ending} (hn:xs.length=n) (h:RetFE (xs,0) w e w'):RetKF xs n w e w':=by
 obtain ⟨A,m,c,rfl,hb,hi,hm⟩:=h
 have h1:xs.length=m:=hm
 obtain rfl:m=n:=by omega
 exact ⟨A,c,rfl,hb,sq_of_own hi hm⟩
theorem s_Double (x:Lsl) (w:World) (hf:x.fit) (hd:LedIn w w.heap.size x exL2) :
 Calls Tryz.prog 23 #[.agg #[.slice x.pA x.pn x.pc,.slice x.rA x.rn x.rc,.slice x.tA x.tn x.tc,.slice x.sA x.sn x.sc],.int .i64 50] w (RetK [10,11] 2 w):=by
 have h:=p_Double exL2 x 50 w hf hd
 rw [ex2_double] at h
 exact h.mono fun _ _ h=>h.k rfl
theorem s_Days (x:Lsl) (w:World) (hf:x.fit) (hd:LedIn w w.heap.size x exL2) :
 Calls Tryz.prog 34 #[.agg #[.slice x.pA x.pn x.pc,.slice x.rA x.rn x.rc,.slice x.tA x.tn x.tc,.slice x.sA x.sn x.sc],.int .i64 20,.int .i64 70] w (fun e w'=>e=.returned (.tuple #[.agg #[.int .i64 26,.int .i64 40],.int .i64 0])∧Below w.heap.size w w'):=by
 have h:=p_Days2 exL2 x 20 70 w hf hd
 rw [ex2_days] at h
 exact h
theorem s_Clash (x:Lsl) (w:World) (hf:x.fit) (hd:LedIn w w.heap.size x exL2) :
 Calls Tryz.prog 25 #[.agg #[.slice x.pA x.pn x.pc,.slice x.rA x.rn x.rc,.slice x.tA x.tn x.tc,.slice x.sA x.sn x.sc],.int .i64 80] w (RetK [30,31] 2 w):=by
 have h:=p_Clash exL2 x 80 w hf hd
 rw [ex2_clash] at h
 exact h.mono fun _ _ h=>h.k rfl
theorem s_Where (x:Lsl) (w:World) (hf:x.fit) (hd:LedIn w w.heap.size x exL2) :
 Calls Tryz.prog 36 #[.agg #[.slice x.pA x.pn x.pc,.slice x.rA x.rn x.rc,.slice x.tA x.tn x.tc,.slice x.sA x.sn x.sc],.agg #[.int .i64 1,.int .i64 1],.int .i64 24,.int .i64 60] w (RetK [0,5] 2 w):=by
 have h:=p_WhereX exL2 x 1 1 24 60 w hf hd (by decide)
 rw [ex2_where] at h
 exact h.mono fun _ _ h=>h.k rfl
theorem s_Whole (x:Lsl) (w:World) (hf:x.fit) (hd:LedIn w w.heap.size x exL2) :
 Calls Tryz.prog 38 #[.agg #[.slice x.pA x.pn x.pc,.slice x.rA x.rn x.rc,.slice x.tA x.tn x.tc,.slice x.sA x.sn x.sc],.int .i64 1,.int .i64 30,.int .i64 60] w (fun e w'=>e=.returned (.tuple #[.int .i64 2,.int .i64 0])∧Below w.heap.size w w'):=by
 have h:=p_WholeX exL2 x 1 30 60 w hf hd
 rw [ex2_whole] at h
 exact h
theorem s_Lies (x:Lsl) (w:World) (hf:x.fit) (hd:LedIn w w.heap.size x exL2) :
 Calls Tryz.prog 40 #[.agg #[.slice x.pA x.pn x.pc,.slice x.rA x.rn x.rc,.slice x.tA x.tn x.tc,.slice x.sA x.sn x.sc],.int .i64 10,.int .i64 40,.int .i64 60] w (fun e w'=>e=.returned (.tuple #[.int .i64 0,.int .i64 0])∧Below w.heap.size w w'):=by
 have h:=p_Lies exL2 x 10 40 60 w hf hd
 rw [ex2_lies] at h
 exact h
theorem s_Has (x:Lsl) (w:World) (hf:x.fit) (hd:LedIn w w.heap.size x exL2) :
 Calls Tryz.prog 42 #[.agg #[.slice x.pA x.pn x.pc,.slice x.rA x.rn x.rc,.slice x.tA x.tn x.tc,.slice x.sA x.sn x.sc],.int .i64 5,.int .i64 19,.int .i64 60] w (RetKF [(1,1),(1,2)] 2 w):=by
 have h:=p_HasX exL2 x 5 19 60 w hf hd
 rw [ex2_has] at h
 exact h.mono fun _ _ h=>h.k rfl
theorem s_Moved (x:Lsl) (w:World) (hf:x.fit) (hd:LedIn w w.heap.size x exL2) :
 Calls Tryz.prog 49 #[.agg #[.slice x.pA x.pn x.pc,.slice x.rA x.rn x.rc,.slice x.tA x.tn x.tc,.slice x.sA x.sn x.sc],.int .i64 20,.int .i64 30,.int .i64 60] w (RetKF [(1,1),(1,2),(1,3),(2,1)] 4 w):=by
 have h:=p_MovedX exL2 x 20 30 60 w hf hd
 rw [ex2_moved] at h
 exact h.mono fun _ _ h=>h.k rfl
theorem s_Placed (x:Lsl) (D:Option Addr) (c0:Nat) (w:World) (hf:x.fit) (hd:LedIn w w.heap.size x exL2) (hy:Is w w.heap.size D 2 [25,30]) :
 Calls Tryz.prog 47 #[.agg #[.slice x.pA x.pn x.pc,.slice x.rA x.rn x.rc,.slice x.tA x.tn x.tc,.slice x.sA x.sn x.sc],.slice D 2 c0,.int .i64 1,.int .i64 27,.int .i64 60] w (RetK [0,0,5] 3 w):=by
 have h:=p_PlacedX exL2 x [25,30] D 2 c0 1 27 60 w hf hd (by decide) hy
 rw [ex2_placed] at h
 exact h.mono fun _ _ h=>h.k rfl
theorem s_True (x:Lsl) (D:Option Addr) (c0:Nat) (w:World) (hf:x.fit) (hd:LedIn w w.heap.size x exL2) (hy:Is w w.heap.size D 2 [41,11]) :
 Calls Tryz.prog 51 #[.agg #[.slice x.pA x.pn x.pc,.slice x.rA x.rn x.rc,.slice x.tA x.tn x.tc,.slice x.sA x.sn x.sc],.int .i64 60,.slice D 2 c0] w (fun e w'=>e=.returned (.int .i64 29)∧Below w.heap.size w w'):=by
 have h:=p_CheckTrue exL2 x 60 [41,11] D 2 c0 w hf hd (by decide) hy
 rw [ex2_true] at h
 exact h
set_option maxRecDepth 100000 in
set_option maxHeartbeats 8000000 in
theorem r_sane2 (w:World) :
 Calls Tryz.prog 20 #[] w fun e w'=>e=.returned (.bool true)∧Below w.heap.size w w':=by
 go_enter Tryz.func20,Tryz.ntmps20
 go_wp2_with fail
 refine (r_ledger _).mono ?_
 rintro e w1 ⟨⟨pA,pn,pc,rA,rn,rc,tA,tn,tc,sA,sn,sc⟩,rfl,hb1,hf,hd1⟩
 have HB1:Below w.heap.size w w1:=hb1
 have HD:=Lib.hid hd1
 have HF:=Lib.hid hf
 have bL:=BoxA.new w1 27 #[.slice pA pn pc,.slice rA rn rc,.slice tA tn tc,.slice sA sn sc]
 clear hd1 hb1 hf
 go_wp2_with fail
 refine (s_Double ⟨pA,pn,pc,rA,rn,rc,tA,tn,tc,sA,sn,sc⟩ _ HF.out (HD.out.now (by exact bel_))).mono ?_
 rintro e w2 ⟨A2,c2,rfl,hb,hi⟩
 have HQ:Below w1.heap.size w1 w2:=Below.then_ (by exact bel_) hb
 have HB2:Below w.heap.size w w2:=Below.then_ HB1 HQ
 replace HD:=Lib.hid (HD.out.now HQ)
 replace bL:=bL.ext hb
 have kL:=bL.cell
 have zL:=bL.lt
 have J2:=Lib.hid hi
 clear hi
 clear hb HB1 HQ
 go_wp2_with fail
 refine (s_Days ⟨pA,pn,pc,rA,rn,rc,tA,tn,tc,sA,sn,sc⟩ _ HF.out (HD.out.now (by exact bel_))).mono ?_
 rintro e w3 ⟨rfl,hb⟩
 have HQ:Below w2.heap.size w2 w3:=Below.then_ (by exact bel_) hb
 have HB3:Below w.heap.size w w3:=Below.then_ HB2 HQ
 replace HD:=Lib.hid (HD.out.now HQ)
 replace bL:=bL.ext HQ
 replace kL:=bL.cell
 replace zL:=bL.lt
 replace J2:=Lib.hid (J2.out.now HQ)
 clear hb HB2 HQ
 go_wp2_with fail
 refine (s_Clash ⟨pA,pn,pc,rA,rn,rc,tA,tn,tc,sA,sn,sc⟩ _ HF.out (HD.out.now (by exact bel_))).mono ?_
 rintro e w4 ⟨A4,c4,rfl,hb,hi⟩
 have HQ:Below w3.heap.size w3 w4:=Below.then_ (by exact bel_) hb
 have HB4:Below w.heap.size w w4:=Below.then_ HB3 HQ
 replace HD:=Lib.hid (HD.out.now HQ)
 replace bL:=bL.ext HQ
 replace kL:=bL.cell
 replace zL:=bL.lt
 replace J2:=Lib.hid (J2.out.now HQ)
 have bR:=(BoxA.new w3 34 #[.int .i64 26,.int .i64 40]).ext hb
 have r0:=bR.cell 0
 have r1:=bR.cell 1
 have zR:=bR.lt
 have J4:=Lib.hid hi
 clear hi
 clear hb HB3 HQ
 go_wp2_with fail
 refine (s_Where ⟨pA,pn,pc,rA,rn,rc,tA,tn,tc,sA,sn,sc⟩ _ HF.out (HD.out.now (by exact bel_))).mono ?_
 rintro e w5 ⟨A5,c5,rfl,hb,hi⟩
 have HQ:Below w4.heap.size w4 w5:=Below.then_ (by exact bel_) hb
 have HB5:Below w.heap.size w w5:=Below.then_ HB4 HQ
 replace HD:=Lib.hid (HD.out.now HQ)
 replace bL:=bL.ext HQ
 replace kL:=bL.cell
 replace zL:=bL.lt
 replace J2:=Lib.hid (J2.out.now HQ)
 replace bR:=bR.ext HQ
 replace r0:=bR.cell 0
 replace r1:=bR.cell 1
 replace zR:=bR.lt
 replace J4:=Lib.hid (J4.out.now HQ)
 have J5:=Lib.hid hi
 clear hi
 clear hb HB4 HQ
 go_wp2_with fail
 refine (s_Whole ⟨pA,pn,pc,rA,rn,rc,tA,tn,tc,sA,sn,sc⟩ _ HF.out (HD.out.now (by exact bel_))).mono ?_
 rintro e w6 ⟨rfl,hb⟩
 have HQ:Below w5.heap.size w5 w6:=Below.then_ (by exact bel_) hb
 have HB6:Below w.heap.size w w6:=Below.then_ HB5 HQ
 replace HD:=Lib.hid (HD.out.now HQ)
 replace bL:=bL.ext HQ
 replace kL:=bL.cell
 replace zL:=bL.lt
 replace J2:=Lib.hid (J2.out.now HQ)
 replace bR:=bR.ext HQ
 replace r0:=bR.cell 0
 replace r1:=bR.cell 1
 replace zR:=bR.lt
 replace J4:=Lib.hid (J4.out.now HQ)
 replace J5:=Lib.hid (J5.out.now HQ)
 clear hb HB5 HQ
 go_wp2_with fail
 refine (s_Lies ⟨pA,pn,pc,rA,rn,rc,tA,tn,tc,sA,sn,sc⟩ _ HF.out (HD.out.now (by exact bel_))).mono ?_
 rintro e w7 ⟨rfl,hb⟩
 have HQ:Below w6.heap.size w6 w7:=Below.then_ (by exact bel_) hb
 have HB7:Below w.heap.size w w7:=Below.then_ HB6 HQ
 replace HD:=Lib.hid (HD.out.now HQ)
 replace bL:=bL.ext HQ
 replace kL:=bL.cell
 replace zL:=bL.lt
 replace J2:=Lib.hid (J2.out.now HQ)
 replace bR:=bR.ext HQ
 replace r0:=bR.cell 0
 replace r1:=bR.cell 1
 replace zR:=bR.lt
 replace J4:=Lib.hid (J4.out.now HQ)
 replace J5:=Lib.hid (J5.out.now HQ)
 clear hb HB6 HQ
 go_wp2_with fail
 refine (s_Has ⟨pA,pn,pc,rA,rn,rc,tA,tn,tc,sA,sn,sc⟩ _ HF.out (HD.out.now (by exact bel_))).mono ?_
 rintro e w8 ⟨A8,c8,rfl,hb,hi⟩
 have HQ:Below w7.heap.size w7 w8:=Below.then_ (by exact bel_) hb
 have HB8:Below w.heap.size w w8:=Below.then_ HB7 HQ
 replace HD:=Lib.hid (HD.out.now HQ)
 replace bL:=bL.ext HQ
 replace kL:=bL.cell
 replace zL:=bL.lt
 replace J2:=Lib.hid (J2.out.now HQ)
 replace bR:=bR.ext HQ
 replace r0:=bR.cell 0
 replace r1:=bR.cell 1
 replace zR:=bR.lt
 replace J4:=Lib.hid (J4.out.now HQ)
 replace J5:=Lib.hid (J5.out.now HQ)
 have J8:=Lib.hid hi
 clear hi
 clear hb HB7 HQ
 go_wp2_with fail
 refine (s_Placed ⟨pA,pn,pc,rA,rn,rc,tA,tn,tc,sA,sn,sc⟩ _ _ _ HF.out (HD.out.now (by exact bel_)) (Rd.new _ #[.int .i64 25,.int .i64 30] _ 1 2 _ (by simp) rfl)).mono ?_
 rintro e w9 ⟨A9,c9,rfl,hb,hi⟩
 have HQ:Below w8.heap.size w8 w9:=Below.then_ (by exact bel_) hb
 have HB9:Below w.heap.size w w9:=Below.then_ HB8 HQ
 replace HD:=Lib.hid (HD.out.now HQ)
 replace bL:=bL.ext HQ
 replace kL:=bL.cell
 replace zL:=bL.lt
 replace J2:=Lib.hid (J2.out.now HQ)
 replace bR:=bR.ext HQ
 replace r0:=bR.cell 0
 replace r1:=bR.cell 1
 replace zR:=bR.lt
 replace J4:=Lib.hid (J4.out.now HQ)
 replace J5:=Lib.hid (J5.out.now HQ)
 replace J8:=Lib.hid (J8.out.now abF HQ)
 have J9:=Lib.hid hi
 clear hi
 clear hb HB8 HQ
 go_wp2_with fail
 refine (s_Moved ⟨pA,pn,pc,rA,rn,rc,tA,tn,tc,sA,sn,sc⟩ _ HF.out (HD.out.now (by exact bel_))).mono ?_
 rintro e w10 ⟨A10,c10,rfl,hb,hi⟩
 have HQ:Below w9.heap.size w9 w10:=Below.then_ (by exact bel_) hb
 have HB10:Below w.heap.size w w10:=Below.then_ HB9 HQ
 replace HD:=Lib.hid (HD.out.now HQ)
 replace bL:=bL.ext HQ
 replace kL:=bL.cell
 replace zL:=bL.lt
 replace J2:=Lib.hid (J2.out.now HQ)
 replace bR:=bR.ext HQ
 replace r0:=bR.cell 0
 replace r1:=bR.cell 1
 replace zR:=bR.lt
 replace J4:=Lib.hid (J4.out.now HQ)
 replace J5:=Lib.hid (J5.out.now HQ)
 replace J8:=Lib.hid (J8.out.now abF HQ)
 replace J9:=Lib.hid (J9.out.now HQ)
 clear hi
 clear hb HB9 HQ
 go_wp2_with fail
 refine (r_Same2 [10,11] [10,11] true _ _ 2 _ 2 _ _ (by decide) (by decide) (J2.out.now (by exact bel_)) (Rd.new _ #[.int .i64 10,.int .i64 11] _ 1 2 _ (by simp) rfl) (by decide)).mono ?_
 rintro e w11 ⟨rfl,hb⟩
 have HQ:Below w10.heap.size w10 w11:=Below.then_ (by exact bel_) hb
 have HB11:Below w.heap.size w w11:=Below.then_ HB10 HQ
 replace HD:=Lib.hid (HD.out.now HQ)
 replace bL:=bL.ext HQ
 replace kL:=bL.cell
 replace zL:=bL.lt
 replace bR:=bR.ext HQ
 replace r0:=bR.cell 0
 replace r1:=bR.cell 1
 replace zR:=bR.lt
 replace J4:=Lib.hid (J4.out.now HQ)
 replace J5:=Lib.hid (J5.out.now HQ)
 replace J8:=Lib.hid (J8.out.now abF HQ)
 replace J9:=Lib.hid (J9.out.now HQ)
 clear hb HB10 HQ
 go_wp2_with fail
 refine (r_Same2 [30,31] [30,31] true _ _ 2 _ 2 _ _ (by decide) (by decide) (J4.out.now (by exact bel_)) (Rd.new _ #[.int .i64 30,.int .i64 31] _ 1 2 _ (by simp) rfl) (by decide)).mono ?_
 rintro e w12 ⟨rfl,hb⟩
 have HQ:Below w11.heap.size w11 w12:=Below.then_ (by exact bel_) hb
 have HB12:Below w.heap.size w w12:=Below.then_ HB11 HQ
 replace HD:=Lib.hid (HD.out.now HQ)
 replace bL:=bL.ext HQ
 replace kL:=bL.cell
 replace zL:=bL.lt
 replace J5:=Lib.hid (J5.out.now HQ)
 replace J8:=Lib.hid (J8.out.now abF HQ)
 replace J9:=Lib.hid (J9.out.now HQ)
 clear hb HB11 HQ
 go_wp2_with fail
 refine (r_Same2 [0,5] [0,5] true _ _ 2 _ 2 _ _ (by decide) (by decide) (J5.out.now (by exact bel_)) (Rd.new _ #[.int .i64 0,.int .i64 5] _ 1 2 _ (by simp) rfl) (by decide)).mono ?_
 rintro e w13 ⟨rfl,hb⟩
 have HQ:Below w12.heap.size w12 w13:=Below.then_ (by exact bel_) hb
 have HB13:Below w.heap.size w w13:=Below.then_ HB12 HQ
 replace HD:=Lib.hid (HD.out.now HQ)
 replace bL:=bL.ext HQ
 replace kL:=bL.cell
 replace zL:=bL.lt
 replace J8:=Lib.hid (J8.out.now abF HQ)
 replace J9:=Lib.hid (J9.out.now HQ)
 clear hb HB12 HQ
 go_wp2_with fail
 refine (r_SameFols [(1,1),(1,2)] [(1,1),(1,2)] true _ _ 2 _ 2 _ _ (by decide) (by decide) (J8.out.now abF (by exact bel_)) ((BoxA.new _ 60 #[.int .i64 1,.int .i64 1,.int .i64 1,.int .i64 2]).sqF (P:=[(1,1),(1,2)]) rfl (by simp)) (by decide)).mono ?_
 rintro e w14 ⟨rfl,hb⟩
 have HQ:Below w13.heap.size w13 w14:=Below.then_ (by exact bel_) hb
 have HB14:Below w.heap.size w w14:=Below.then_ HB13 HQ
 replace HD:=Lib.hid (HD.out.now HQ)
 replace bL:=bL.ext HQ
 replace kL:=bL.cell
 replace zL:=bL.lt
 replace J9:=Lib.hid (J9.out.now HQ)
 clear hb HB13 HQ
 go_wp2_with fail
 refine (r_Same2 [0,0,5] [0,0,5] true _ _ 3 _ 3 _ _ (by decide) (by decide) (J9.out.now (by exact bel_)) (Rd.new _ #[.int .i64 0,.int .i64 0,.int .i64 5] _ 1 3 _ (by simp) rfl) (by decide)).mono ?_
 rintro e w15 ⟨rfl,hb⟩
 have HQ:Below w14.heap.size w14 w15:=Below.then_ (by exact bel_) hb
 have HB15:Below w.heap.size w w15:=Below.then_ HB14 HQ
 replace HD:=Lib.hid (HD.out.now HQ)
 replace bL:=bL.ext HQ
 replace kL:=bL.cell
 replace zL:=bL.lt
 clear hb HB14 HQ
 go_wp2_with fail
 refine (s_True ⟨pA,pn,pc,rA,rn,rc,tA,tn,tc,sA,sn,sc⟩ _ _ _ HF.out (HD.out.now (by exact bel_)) (Rd.new _ #[.int .i64 41,.int .i64 11] _ 1 2 _ (by simp) rfl)).mono ?_
 rintro e w16 ⟨rfl,hb⟩
 have HQ:Below w15.heap.size w15 w16:=Below.then_ (by exact bel_) hb
 have HB16:Below w.heap.size w w16:=Below.then_ HB15 HQ
 replace HD:=Lib.hid (HD.out.now HQ)
 replace bL:=bL.ext HQ
 replace kL:=bL.cell
 replace zL:=bL.lt
 clear hb HB15 HQ
 go_wp2_with fail
 go_ret
 exact ⟨rfl,HB16⟩
end Go.Proofs.YtoiompoapikkbaaGreat
/- LoanDoubles: Telling, Double, CheckDouble, Clash, CheckClash and Sound agree with the reference. -/
namespace Go.Proofs.YtoiompoapikkbaaGreat
open Go.RowKit Go.Maps
theorem p_Telling_v (l:Led) (x:Lsl) (kn:Int) (p:List Int) (v:Int) (w:World) (hf:x.fit) (hd:LedIn w w.heap.size x l) (h:telX l kn=(p,v)) :
 Calls Tryz.prog 21 #[.agg #[.slice x.pA x.pn x.pc,.slice x.rA x.rn x.rc,.slice x.tA x.tn x.tc,.slice x.sA x.sn x.sc],.int .i64 kn] w (RetLE (p,v) w):=h ▸ p_Telling l x kn w hf hd
theorem r_Telling_v (l:Led) (x:Lsl) (kn:Int) (p:List Int) (v:Int) (w:World) (hf:x.fit) (hd:LedIn w w.heap.size x l) (h:telX l kn=(p,v)) :
 Calls Tryz.prog 22 #[.agg #[.slice x.pA x.pn x.pc,.slice x.rA x.rn x.rc,.slice x.tA x.tn x.tc,.slice x.sA x.sn x.sc],.int .i64 kn] w (RetLE (p,v) w):=h ▸ r_Telling l x kn w hf hd
theorem p_Double_v (l:Led) (x:Lsl) (kn:Int) (p:List Int) (v:Int) (w:World) (hf:x.fit) (hd:LedIn w w.heap.size x l) (h:doubleX l kn=(p,v)) :
 Calls Tryz.prog 23 #[.agg #[.slice x.pA x.pn x.pc,.slice x.rA x.rn x.rc,.slice x.tA x.tn x.tc,.slice x.sA x.sn x.sc],.int .i64 kn] w (RetLE (p,v) w):=h ▸ p_Double l x kn w hf hd
theorem r_Double_v (l:Led) (x:Lsl) (kn:Int) (p:List Int) (v:Int) (w:World) (hf:x.fit) (hd:LedIn w w.heap.size x l) (h:doubleX l kn=(p,v)) :
 Calls Tryz.prog 24 #[.agg #[.slice x.pA x.pn x.pc,.slice x.rA x.rn x.rc,.slice x.tA x.tn x.tc,.slice x.sA x.sn x.sc],.int .i64 kn] w (RetLE (p,v) w):=h ▸ r_Double l x kn w hf hd
theorem p_Clash_v (l:Led) (x:Lsl) (kn:Int) (p:List Int) (v:Int) (w:World) (hf:x.fit) (hd:LedIn w w.heap.size x l) (h:clashX l kn=(p,v)) :
 Calls Tryz.prog 25 #[.agg #[.slice x.pA x.pn x.pc,.slice x.rA x.rn x.rc,.slice x.tA x.tn x.tc,.slice x.sA x.sn x.sc],.int .i64 kn] w (RetLE (p,v) w):=h ▸ p_Clash l x kn w hf hd
theorem r_Clash_v (l:Led) (x:Lsl) (kn:Int) (p:List Int) (v:Int) (w:World) (hf:x.fit) (hd:LedIn w w.heap.size x l) (h:clashX l kn=(p,v)) :
 Calls Tryz.prog 26 #[.agg #[.slice x.pA x.pn x.pc,.slice x.rA x.rn x.rc,.slice x.tA x.tn x.tc,.slice x.sA x.sn x.sc],.int .i64 kn] w (RetLE (p,v) w):=h ▸ r_Clash l x kn w hf hd
theorem p_Sound_v (l:Led) (x:Lsl) (kn:Int) (p:Bool) (v:Int) (w:World) (hf:x.fit) (hd:LedIn w w.heap.size x l) (h:soundX l kn=(p,v)) :
 Calls Tryz.prog 27 #[.agg #[.slice x.pA x.pn x.pc,.slice x.rA x.rn x.rc,.slice x.tA x.tn x.tc,.slice x.sA x.sn x.sc],.int .i64 kn] w (fun e w'=>e=.returned (.tuple #[.bool p,.int .i64 v])∧Below w.heap.size w w'):=by
 have hc:=p_Sound l x kn w hf hd
 rw [h] at hc
 exact hc
theorem r_Sound_v (l:Led) (x:Lsl) (kn:Int) (p:Bool) (v:Int) (w:World) (hf:x.fit) (hd:LedIn w w.heap.size x l) (h:soundX l kn=(p,v)) :
 Calls Tryz.prog 28 #[.agg #[.slice x.pA x.pn x.pc,.slice x.rA x.rn x.rc,.slice x.tA x.tn x.tc,.slice x.sA x.sn x.sc],.int .i64 kn] w (fun e w'=>e=.returned (.tuple #[.bool p,.int .i64 v])∧Below w.heap.size w w'):=by
 have hc:=r_Sound l x kn w hf hd
 rw [h] at hc
 exact hc
theorem p_CheckDouble_v (l:Led) (x:Lsl) (kn:Int) (bs:List Int) (D:Option Addr) (m c:Nat) (z:Int) (w:World) (hf:x.fit) (hd:LedIn w w.heap.size x l) (hm:m≤9223372036854775807) (hby:Is w w.heap.size D m bs) (h:cdE l kn bs=z) :
 Calls Tryz.prog 30 #[.agg #[.slice x.pA x.pn x.pc,.slice x.rA x.rn x.rc,.slice x.tA x.tn x.tc,.slice x.sA x.sn x.sc],.int .i64 kn,.slice D m c] w fun e w'=>e=.returned (.int .i64 z)∧Below w.heap.size w w':=h ▸ p_CheckDouble l x kn bs D m c w hf hd hm hby
theorem r_CheckDouble_v (l:Led) (x:Lsl) (kn:Int) (bs:List Int) (D:Option Addr) (m c:Nat) (z:Int) (w:World) (hf:x.fit) (hd:LedIn w w.heap.size x l) (hm:m≤9223372036854775807) (hby:Is w w.heap.size D m bs) (h:cdE l kn bs=z) :
 Calls Tryz.prog 31 #[.agg #[.slice x.pA x.pn x.pc,.slice x.rA x.rn x.rc,.slice x.tA x.tn x.tc,.slice x.sA x.sn x.sc],.int .i64 kn,.slice D m c] w fun e w'=>e=.returned (.int .i64 z)∧Below w.heap.size w w':=h ▸ r_CheckDouble l x kn bs D m c w hf hd hm hby
theorem p_CheckClash_v (l:Led) (x:Lsl) (kn:Int) (bs:List Int) (D:Option Addr) (m c:Nat) (z:Int) (w:World) (hf:x.fit) (hd:LedIn w w.heap.size x l) (hm:m≤9223372036854775807) (hby:Is w w.heap.size D m bs) (h:ccE l kn bs=z) :
 Calls Tryz.prog 32 #[.agg #[.slice x.pA x.pn x.pc,.slice x.rA x.rn x.rc,.slice x.tA x.tn x.tc,.slice x.sA x.sn x.sc],.int .i64 kn,.slice D m c] w fun e w'=>e=.returned (.int .i64 z)∧Below w.heap.size w w':=h ▸ p_CheckClash l x kn bs D m c w hf hd hm hby
theorem r_CheckClash_v (l:Led) (x:Lsl) (kn:Int) (bs:List Int) (D:Option Addr) (m c:Nat) (z:Int) (w:World) (hf:x.fit) (hd:LedIn w w.heap.size x l) (hm:m≤9223372036854775807) (hby:Is w w.heap.size D m bs) (h:ccE l kn bs=z) :
 Calls Tryz.prog 33 #[.agg #[.slice x.pA x.pn x.pc,.slice x.rA x.rn x.rc,.slice x.tA x.tn x.tc,.slice x.sA x.sn x.sc],.int .i64 kn,.slice D m c] w fun e w'=>e=.returned (.int .i64 z)∧Below w.heap.size w w':=h ▸ r_CheckClash l x kn bs D m c w hf hd hm hby
theorem telX_len {l:Led} {kn v:Int} {p:List Int} (h:telX l kn=(p,v)):p.length≤1000000:=by
 unfold telX at h
 split at h
 ·rename_i hv
  cases h
  have h1:=telK_len (opnL l kn).T l.rt l.rt.length
  have h2:=(led_ok (pre_zero hv).1).tn
  omega
 ·cases h;simp
theorem doubleX_len {l:Led} {kn v:Int} {p:List Int} (h:doubleX l kn=(p,v)):p.length≤1000000:=by
 unfold doubleX at h
 split at h
 ·split at h <;> cases h <;> simp
 ·cases h;simp
theorem clashX_len {l:Led} {kn v:Int} {p:List Int} (h:clashX l kn=(p,v)):p.length≤1000000:=by
 unfold clashX at h
 split at h
 ·split at h
  ·cases h;simp
  ·split at h
   ·cases h;simp
   ·unfold clashR at h
    split at h <;> cases h <;> simp
 ·cases h;simp
set_option maxRecDepth 10000 in
set_option maxHeartbeats 8000000 in
theorem w_LoanDoubles (l:Led) (x:Lsl) (kn:Int) (bs:List Int) (D:Option Addr) (m c:Nat) (w:World) (hf:x.fit) (hd:LedIn w w.heap.size x l) (hm:m≤9223372036854775807) (hby:Is w w.heap.size D m bs) :
 Calls Tryz.prog 4 #[.agg #[.slice x.pA x.pn x.pc,.slice x.rA x.rn x.rc,.slice x.tA x.tn x.tc,.slice x.sA x.sn x.sc],.int .i64 kn,.slice D m c] w fun e w'=>e=.returned (.bool true)∧Below w.heap.size w w':=by
 obtain ⟨pA,pn,pc,rA,rn,rc,tA,tn,tc,sA,sn,sc⟩:=x
 have HD:=Lib.hid hd
 have HF:=Lib.hid hf
 have HBY:=Lib.hid hby
 clear hd hf hby
 obtain ⟨⟨tl,te⟩,h1⟩:∃ p,telX l kn=p:=⟨_,rfl⟩
 obtain ⟨⟨dl,de⟩,h2⟩:∃ p,doubleX l kn=p:=⟨_,rfl⟩
 obtain ⟨⟨cl,ce⟩,h3⟩:∃ p,clashX l kn=p:=⟨_,rfl⟩
 obtain ⟨⟨sb,se⟩,h4⟩:∃ p,soundX l kn=p:=⟨_,rfl⟩
 obtain ⟨z1,h5⟩:∃ z,cdE l kn bs=z:=⟨_,rfl⟩
 obtain ⟨z2,h6⟩:∃ z,ccE l kn bs=z:=⟨_,rfl⟩
 have HTL:=Lib.hid h1
 have HDL:=Lib.hid h2
 have HCL:=Lib.hid h3
 have HSL:=Lib.hid h4
 have HZ1:=Lib.hid h5
 have HZ2:=Lib.hid h6
 have hlt:=telX_len h1
 have hld:=doubleX_len h2
 have hlc:=clashX_len h3
 clear h1 h2 h3 h4 h5 h6
 have q1:(z1 == z1)=true:=by simp
 have q2:(z2 == z2)=true:=by simp
 go_enter Tryz.func4,Tryz.ntmps4
 go_wp2_with fail
 refine (p_Telling_v l ⟨pA,pn,pc,rA,rn,rc,tA,tn,tc,sA,sn,sc⟩ kn tl te _ HF.out (HD.out.now (by exact bel_)) HTL.out).mono ?_
 rintro e w1 ⟨A1,n1,c1,rfl,hb1,hi1,-⟩
 have HI1:Hid (Is w1 w1.heap.size A1 n1 tl):=by show Is _ _ _ _ _;exact hi1
 clear hi1
 have HB1:Below w.heap.size w w1:=Below.then_ (by exact bel_) hb1
 have hs1:=HB1.size
 have bL1:=(BoxA.new w 27 #[.slice pA pn pc,.slice rA rn rc,.slice tA tn tc,.slice sA sn sc]).ext hb1
 have kL1:=bL1.cell
 have zL1:=bL1.lt
 clear hb1
 go_wp2_with fail
 refine (r_Telling_v l ⟨pA,pn,pc,rA,rn,rc,tA,tn,tc,sA,sn,sc⟩ kn tl te _ HF.out (HD.out.now (by exact bel_)) HTL.out).mono ?_
 rintro e w2 ⟨A2,n2,c2,rfl,hb2,hi2,-⟩
 have HI2:Hid (Is w2 w2.heap.size A2 n2 tl):=by show Is _ _ _ _ _;exact hi2
 clear hi2
 have HB2:Below w.heap.size w w2:=Below.then_ HB1 hb2
 have HI1:=Lib.hid (HI1.out.now hb2)
 have hs2:=HB2.size
 have bL2:=bL1.ext hb2
 have kL2:=bL2.cell
 have zL2:=bL2.lt
 clear kL1 zL1 bL1 hb2
 go_wp2_with fail
 refine (p_Double_v l ⟨pA,pn,pc,rA,rn,rc,tA,tn,tc,sA,sn,sc⟩ kn dl de _ HF.out (HD.out.now (by exact bel_)) HDL.out).mono ?_
 rintro e w3 ⟨A3,n3,c3,rfl,hb3,hi3,-⟩
 have HI3:Hid (Is w3 w3.heap.size A3 n3 dl):=by show Is _ _ _ _ _;exact hi3
 clear hi3
 have HB3:Below w.heap.size w w3:=Below.then_ HB2 hb3
 have HI1:=Lib.hid (HI1.out.now hb3)
 have HI2:=Lib.hid (HI2.out.now hb3)
 have hs3:=HB3.size
 have bL3:=bL2.ext hb3
 have kL3:=bL3.cell
 have zL3:=bL3.lt
 clear kL2 zL2 bL2 hb3
 go_wp2_with fail
 refine (r_Double_v l ⟨pA,pn,pc,rA,rn,rc,tA,tn,tc,sA,sn,sc⟩ kn dl de _ HF.out (HD.out.now (by exact bel_)) HDL.out).mono ?_
 rintro e w4 ⟨A4,n4,c4,rfl,hb4,hi4,-⟩
 have HI4:Hid (Is w4 w4.heap.size A4 n4 dl):=by show Is _ _ _ _ _;exact hi4
 clear hi4
 have HB4:Below w.heap.size w w4:=Below.then_ HB3 hb4
 have HI1:=Lib.hid (HI1.out.now hb4)
 have HI2:=Lib.hid (HI2.out.now hb4)
 have HI3:=Lib.hid (HI3.out.now hb4)
 have hs4:=HB4.size
 have bL4:=bL3.ext hb4
 have kL4:=bL4.cell
 have zL4:=bL4.lt
 clear kL3 zL3 bL3 hb4
 go_wp2_with fail
 refine (p_Clash_v l ⟨pA,pn,pc,rA,rn,rc,tA,tn,tc,sA,sn,sc⟩ kn cl ce _ HF.out (HD.out.now (by exact bel_)) HCL.out).mono ?_
 rintro e w5 ⟨A5,n5,c5,rfl,hb5,hi5,-⟩
 have HI5:Hid (Is w5 w5.heap.size A5 n5 cl):=by show Is _ _ _ _ _;exact hi5
 clear hi5
 have HB5:Below w.heap.size w w5:=Below.then_ HB4 hb5
 have HI1:=Lib.hid (HI1.out.now hb5)
 have HI2:=Lib.hid (HI2.out.now hb5)
 have HI3:=Lib.hid (HI3.out.now hb5)
 have HI4:=Lib.hid (HI4.out.now hb5)
 have hs5:=HB5.size
 have bL5:=bL4.ext hb5
 have kL5:=bL5.cell
 have zL5:=bL5.lt
 clear kL4 zL4 bL4 hb5
 go_wp2_with fail
 refine (r_Clash_v l ⟨pA,pn,pc,rA,rn,rc,tA,tn,tc,sA,sn,sc⟩ kn cl ce _ HF.out (HD.out.now (by exact bel_)) HCL.out).mono ?_
 rintro e w6 ⟨A6,n6,c6,rfl,hb6,hi6,-⟩
 have HI6:Hid (Is w6 w6.heap.size A6 n6 cl):=by show Is _ _ _ _ _;exact hi6
 clear hi6
 have HB6:Below w.heap.size w w6:=Below.then_ HB5 hb6
 have HI1:=Lib.hid (HI1.out.now hb6)
 have HI2:=Lib.hid (HI2.out.now hb6)
 have HI3:=Lib.hid (HI3.out.now hb6)
 have HI4:=Lib.hid (HI4.out.now hb6)
 have HI5:=Lib.hid (HI5.out.now hb6)
 have hs6:=HB6.size
 have bL6:=bL5.ext hb6
 have kL6:=bL6.cell
 have zL6:=bL6.lt
 clear kL5 zL5 bL5 hb6
 go_wp2_with fail
 refine (p_Sound_v l ⟨pA,pn,pc,rA,rn,rc,tA,tn,tc,sA,sn,sc⟩ kn sb se _ HF.out (HD.out.now (by exact bel_)) HSL.out).mono ?_
 rintro e w7 ⟨rfl,hb7⟩
 have HB7:Below w.heap.size w w7:=Below.then_ HB6 hb7
 have HI1:=Lib.hid (HI1.out.now hb7)
 have HI2:=Lib.hid (HI2.out.now hb7)
 have HI3:=Lib.hid (HI3.out.now hb7)
 have HI4:=Lib.hid (HI4.out.now hb7)
 have HI5:=Lib.hid (HI5.out.now hb7)
 have HI6:=Lib.hid (HI6.out.now hb7)
 have hs7:=HB7.size
 have bL7:=bL6.ext hb7
 have kL7:=bL7.cell
 have zL7:=bL7.lt
 clear kL6 zL6 bL6 hb7
 go_wp2_with fail
 refine (r_Sound_v l ⟨pA,pn,pc,rA,rn,rc,tA,tn,tc,sA,sn,sc⟩ kn sb se _ HF.out (HD.out.now (by exact bel_)) HSL.out).mono ?_
 rintro e w8 ⟨rfl,hb8⟩
 have HB8:Below w.heap.size w w8:=Below.then_ HB7 hb8
 have HI1:=Lib.hid (HI1.out.now hb8)
 have HI2:=Lib.hid (HI2.out.now hb8)
 have HI3:=Lib.hid (HI3.out.now hb8)
 have HI4:=Lib.hid (HI4.out.now hb8)
 have HI5:=Lib.hid (HI5.out.now hb8)
 have HI6:=Lib.hid (HI6.out.now hb8)
 have hs8:=HB8.size
 have bL8:=bL7.ext hb8
 have kL8:=bL8.cell
 have zL8:=bL8.lt
 clear kL7 zL7 bL7 hb8
 have h1:n1≤1000000:=by have h:=HI1.out.len;omega
 have h2:n2≤1000000:=by have h:=HI2.out.len;omega
 have h3:n3≤1000000:=by have h:=HI3.out.len;omega
 have h4:n4≤1000000:=by have h:=HI4.out.len;omega
 have h5:n5≤1000000:=by have h:=HI5.out.len;omega
 have h6:n6≤1000000:=by have h:=HI6.out.len;omega
 go_wp2_with (first | (go_at_call_of 29 (Value.slice A1 n1 c1);refine (r_Same2 tl tl true A1 A2 n1 c1 n2 c2 _ h1 h2 HI1.out HI2.out (by simp)).mono ?_;rintro e w9 ⟨rfl,hb9⟩;have HB9:=Below.then_ HB8 hb9;have HI3:=Lib.hid (HI3.out.now hb9);have HI4:=Lib.hid (HI4.out.now hb9);have HI5:=Lib.hid (HI5.out.now hb9);have HI6:=Lib.hid (HI6.out.now hb9);have hs9:=HB9.size;have bL9:=bL8.ext hb9;have kL9:=bL9.cell;have zL9:=bL9.lt;clear kL8 zL8 hb9) | (go_at_call_of 29 (Value.slice A3 n3 c3);refine (r_Same2 dl dl true A3 A4 n3 c3 n4 c4 _ h3 h4 HI3.out HI4.out (by simp)).mono ?_;rintro e w10 ⟨rfl,hb10⟩;have HB10:=Below.then_ HB9 hb10;have HI5:=Lib.hid (HI5.out.now hb10);have HI6:=Lib.hid (HI6.out.now hb10);have hs10:=HB10.size;have bL10:=bL9.ext hb10;have kL10:=bL10.cell;have zL10:=bL10.lt;clear kL9 zL9 hb10) | (go_at_call_of 29 (Value.slice A5 n5 c5);refine (r_Same2 cl cl true A5 A6 n5 c5 n6 c6 _ h5 h6 HI5.out HI6.out (by simp)).mono ?_;rintro e w11 ⟨rfl,hb11⟩;have HB11:=Below.then_ HB10 hb11;have hs11:=HB11.size;have bL11:=bL10.ext hb11;have kL11:=bL11.cell;have zL11:=bL11.lt;clear kL10 zL10 hb11))
 (refine rg_ ?_;(repeat (go_big_quiet_step ((first | (go_at_call_of 30 (Value.agg #[.slice pA pn pc,.slice rA rn rc,.slice tA tn tc,.slice sA sn sc]);exact Calls.grow_all (fun g=>p_CheckDouble_v l ⟨pA,pn,pc,rA,rn,rc,tA,tn,tc,sA,sn,sc⟩ kn bs D m c z1 g.1 HF.out (HD.out.now (Below.then_ HB11 g.2)) hm (HBY.out.now (Below.then_ HB11 g.2)) HZ1.out)) | (go_at_call_of 31 (Value.agg #[.slice pA pn pc,.slice rA rn rc,.slice tA tn tc,.slice sA sn sc]);exact Calls.grow_all (fun g=>r_CheckDouble_v l ⟨pA,pn,pc,rA,rn,rc,tA,tn,tc,sA,sn,sc⟩ kn bs D m c z1 g.1 HF.out (HD.out.now (Below.then_ HB11 g.2)) hm (HBY.out.now (Below.then_ HB11 g.2)) HZ1.out)) | (go_at_call_of 32 (Value.agg #[.slice pA pn pc,.slice rA rn rc,.slice tA tn tc,.slice sA sn sc]);exact Calls.grow_all (fun g=>p_CheckClash_v l ⟨pA,pn,pc,rA,rn,rc,tA,tn,tc,sA,sn,sc⟩ kn bs D m c z2 g.1 HF.out (HD.out.now (Below.then_ HB11 g.2)) hm (HBY.out.now (Below.then_ HB11 g.2)) HZ2.out)) | (go_at_call_of 33 (Value.agg #[.slice pA pn pc,.slice rA rn rc,.slice tA tn tc,.slice sA sn sc]);exact Calls.grow_all (fun g=>r_CheckClash_v l ⟨pA,pn,pc,rA,rn,rc,tA,tn,tc,sA,sn,sc⟩ kn bs D m c z2 g.1 HF.out (HD.out.now (Below.then_ HB11 g.2)) hm (HBY.out.now (Below.then_ HB11 g.2)) HZ2.out)) | (go_at_call 20;exact Calls.grow_of (r_sane2 _))))));refine qn_ fun w1 hb1 hc1 hf1=>?_)
 go_wp2_with fail
 go_ret
 exact ⟨rfl,Below.then_ HB11 hb1⟩
end Go.Proofs.YtoiompoapikkbaaGreat
