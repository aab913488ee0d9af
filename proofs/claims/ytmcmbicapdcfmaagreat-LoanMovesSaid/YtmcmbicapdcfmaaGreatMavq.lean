/- Layer 2 of the texts that LoanMoves takes: Mavq. -/
import Derived.Test.YtmcmbicapdcfmaaGreatMauq
set_option linter.unusedVariables false
set_option linter.unusedSimpArgs false
set_option maxHeartbeats 16000000
namespace Go.Proofs.YtmcmbicapdcfmaaGreat
open Go.RowKit Go.Maps
end Go.Proofs.YtmcmbicapdcfmaaGreat
namespace Go.Proofs.YtmcmbicapdcfmaaGreat
open Go.RowKit
end Go.Proofs.YtmcmbicapdcfmaaGreat
namespace Go.Proofs.YtmcmbicapdcfmaaGreat
open Go.RowKit Go.Maps
def dblR (M:List ((Int × Int) × Nat)) (P:List (Int × Int)):List Rcp→Option (Rcp × Rcp)
 | []=>none
 | x :: l=>match l.find? (dblB M P x) with
   | some y=>some (x,y)
   | none=>dblR M P l
theorem dbl2_map (M:List ((Int × Int) × Nat)) (P:List (Int × Int)):∀ xs:List Rv,(dbl2 M P xs).map (fun p=>(p.1.r,p.2.r))=dblR M P (xs.map Rv.r)
 | []=>rfl
 | x :: l=>by
   have h:(l.map Rv.r).find? (dblB M P x.r)=(l.find? fun y=>dblB M P x.r y.r).map Rv.r:=by rw [List.find?_map];rfl
   rw [List.map_cons,dblR,h,dbl2]
   cases l.find? fun y=>dblB M P x.r y.r with
   | none=>exact dbl2_map M P l
   | some y=>rfl
theorem dbl2_isNone (M:List ((Int × Int) × Nat)) (P:List (Int × Int)) (xs:List Rv):(dblR M P (xs.map Rv.r)).isNone=(dbl2 M P xs).isNone:=by
 rw [← dbl2_map];cases dbl2 M P xs <;> rfl
set_option maxRecDepth 10000 in
theorem p_agree (M:List ((Int × Int) × Nat)) (R:List Rcp) (P:List (Int × Int)) (a:Acc) (w:World) (h:AccR w a M R P) :
 Calls Tryz.prog 81 #[accV a] w fun e w'=>e=.returned (.int .i64 (errI (dblR M P R).isNone 25))∧Below w.heap.size w w':=by
 obtain ⟨xs,hxs,hx⟩:=rvs_of h.r
 have hfound:(dblR M P R).isNone=(dbl2 M P xs).isNone:=by rw [← hxs];exact dbl2_isNone M P xs
 rw [hfound]
 obtain ⟨⟨pA,pn,pc,rA,rn,rc,tA,tn,tc,sA,sn,sc⟩,kn,RA,Rn,Rc,SA,Sn,Sc,bm,TA,Tn,Tc,PA,Pn,Pc⟩:=a
 show Calls _ _ #[.agg #[.slice pA pn pc,.slice rA rn rc,.slice tA tn tc,.slice sA sn sc,.int .i64 kn,.slice RA Rn Rc,.slice SA Sn Sc,.map (some bm),.slice TA Tn Tc,.slice PA Pn Pc]] _ _
 obtain ⟨o,ho⟩:∃ o,dbl2 M P xs=o:=⟨_,rfl⟩
 have HN:Hid (∀ W:World,Below w.heap.size w W→Calls Tryz.prog 80 #[.agg #[.slice pA pn pc,.slice rA rn rc,.slice tA tn tc,.slice sA sn sc,.int .i64 kn,.slice RA Rn Rc,.slice SA Sn Sc,.map (some bm),.slice TA Tn Tc,.slice PA Pn Pc]] W (RetDbl o W)):=by
  show ∀ _,_
  intro W hW
  rw [← ho]
  exact p_double M R P xs ⟨⟨pA,pn,pc,rA,rn,rc,tA,tn,tc,sA,sn,sc⟩,kn,RA,Rn,Rc,SA,Sn,Sc,bm,TA,Tn,Tc,PA,Pn,Pc⟩ W (h.now hW) (hx.now abV hW) hxs
 rw [ho]
 clear ho h hx hxs hfound
 have hB0:Below w.heap.size w (w.alloc (.cells #[.slice pA pn pc,.slice rA rn rc,.slice tA tn tc,.slice sA sn sc,.int .i64 kn,.slice RA Rn Rc,.slice SA Sn Sc,.map (some bm),.slice TA Tn Tc,.slice PA Pn Pc] 115)):=by exact bel_
 cases o with
 | none =>
   go_enter Tryz.func81,Tryz.ntmps81
   go_wp2_with (first | (go_at_call 80;refine (HN.out _ hB0).mono ?_;rintro e w1 ⟨hb1,rfl⟩;have HB1:=bt_ hB0 hb1;have hs1:=HB1.size) | (go_at_call 61;refine (p_verdict _ _ _).mono ?_;rintro e w1 ⟨rfl,rfl⟩))
   go_ret
   exact ⟨rfl,by exact bel_⟩
 | some p =>
   obtain ⟨⟨x,A1,n1,c1⟩,⟨y,A2,n2,c2⟩⟩:=p
   go_enter Tryz.func81,Tryz.ntmps81
   go_wp2_with (first | (go_at_call 80;refine (HN.out _ hB0).mono ?_;rintro e w1 ⟨hb1,rfl⟩;have HB1:=bt_ hB0 hb1;have hs1:=HB1.size) | (go_at_call 61;refine (p_verdict _ _ _).mono ?_;rintro e w1 ⟨rfl,rfl⟩))
   go_ret
   exact ⟨rfl,by exact bel_⟩
def RetSet (d:Option (Rcp × Rcp)) (o:Option (List (Int × Int))) (ba n:Nat) (w:World) (e:Ending) (w':World):Prop:=match d,o with
 | some _,_=>e=.returned (.int .i64 25)∧Below w.heap.size w w'
 | none,none=>e=.returned (.int .i64 27)∧Below w.heap.size w w'
 | none,some P=>e=.returned (.int .i64 0)∧∃ w1 A c,Below w.heap.size w w1∧w1.ownsRow w.heap.size 133 2 (.slice A n c) n (folCells P)∧P.length=n∧w'=w1.setCell ⟨ba,9,none⟩ (.slice A n c)
set_option maxRecDepth 10000 in
theorem p_settle (M:List ((Int × Int) × Nat)) (R:List Rcp) (P:List (Int × Int)) (S:List Sgt) (a:Acc) (ba:Nat) (w:World) (h:AccR w a M R P) (hS:sgsOk S) (hn:a.Sn≤1000000) (hs:Sgs w w.heap.size a.SA a.Sn S)
 (hb:BoxA w ba 115 #[.slice a.x.pA a.x.pn a.x.pc,.slice a.x.rA a.x.rn a.x.rc,.slice a.x.tA a.x.tn a.x.tc,.slice a.x.sA a.x.sn a.x.sc,.int .i64 a.kn,.slice a.RA a.Rn a.Rc,.slice a.SA a.Sn a.Sc,.map (some a.bm),.slice a.TA a.Tn a.Tc,.slice a.PA a.Pn a.Pc]) :
 Calls Tryz.prog 73 #[.pointer (some ⟨ba,0,none⟩)] w (RetSet (dblR M P R) (narL M R S P) ba a.Pn w):=by
 obtain ⟨⟨pA,pn,pc,rA,rn,rc,tA,tn,tc,sA,sn,sc⟩,kn,RA,Rn,Rc,SA,Sn,Sc,bm,TA,Tn,Tc,PA,Pn,Pc⟩:=a
 obtain ⟨d,hd⟩:∃ d,dblR M P R=d:=⟨_,rfl⟩
 obtain ⟨o,ho⟩:∃ o,narL M R S P=o:=⟨_,rfl⟩
 have HG:Hid (∀ W:World,Below w.heap.size w W→Calls Tryz.prog 81 #[.agg #[.slice pA pn pc,.slice rA rn rc,.slice tA tn tc,.slice sA sn sc,.int .i64 kn,.slice RA Rn Rc,.slice SA Sn Sc,.map (some bm),.slice TA Tn Tc,.slice PA Pn Pc]] W fun e w'=>e=.returned (.int .i64 (errI d.isNone 25))∧Below W.heap.size W w'):=by
  show ∀ _,_
  intro W hW
  rw [← hd]
  exact p_agree M R P ⟨⟨pA,pn,pc,rA,rn,rc,tA,tn,tc,sA,sn,sc⟩,kn,RA,Rn,Rc,SA,Sn,Sc,bm,TA,Tn,Tc,PA,Pn,Pc⟩ W (h.now hW)
 have HN:Hid (∀ W:World,Below w.heap.size w W→Calls Tryz.prog 124 #[.agg #[.slice pA pn pc,.slice rA rn rc,.slice tA tn tc,.slice sA sn sc,.int .i64 kn,.slice RA Rn Rc,.slice SA Sn Sc,.map (some bm),.slice TA Tn Tc,.slice PA Pn Pc],.slice SA Sn Sc] W (RetNar o Pn W)):=by
  show ∀ _,_
  intro W hW
  have hk:=h.now hW
  rw [← ho]
  exact p_narrowed M R P S ⟨⟨pA,pn,pc,rA,rn,rc,tA,tn,tc,sA,sn,sc⟩,kn,RA,Rn,Rc,SA,Sn,Sc,bm,TA,Tn,Tc,PA,Pn,Pc⟩ SA Sn Sc W hk.nR (fun r hr=>⟨(hk.okR r hr).1,(hk.okR r hr).2.1⟩) hS hn hk.nP hk.aP hk.mP hk.m hk.r hk.p (hs.now abS hW)
 rw [hd,ho]
 have hb2:BoxA w ba 115 #[.slice pA pn pc,.slice rA rn rc,.slice tA tn tc,.slice sA sn sc,.int .i64 kn,.slice RA Rn Rc,.slice SA Sn Sc,.map (some bm),.slice TA Tn Tc,.slice PA Pn Pc]:=hb
 have hce:=hb2.cell
 have hlt:=hb2.lt
 clear h hS hn hs hd ho hb
 show Calls _ _ _ _ (RetSet d o ba Pn w)
 cases d with
 | some p =>
   have hg:=HG.out w (Below.refl _ _)
   simp only [Option.isNone_some,errI] at hg
   go_enter Tryz.func73,Tryz.ntmps73
   go_wp2_with (go_at_call 81;refine hg.mono ?_;rintro e w1 ⟨rfl,hb1⟩)
   go_ret
   exact ⟨rfl,hb1⟩
 | none =>
   have hg:=HG.out w (Below.refl _ _)
   simp only [Option.isNone_none,errI] at hg
   cases o with
   | none =>
     go_enter Tryz.func73,Tryz.ntmps73
     go_wp2_with (go_at_call 81;refine hg.mono ?_;rintro e w1 ⟨rfl,hb1⟩;have b1:=hb2.ext hb1;have k1:=b1.cell;have z1:=b1.lt)
     have z1d:ba<w1.drew.heap.size:=z1
     clear hce
     go_region_with (go_at_call 124;refine (HN.out w1.drew hb1.drew).mono ?_;rintro e w2 ⟨hb2',rfl⟩)
     all_goals
      go_wp2
      go_ret
      exact ⟨rfl,bt_ (W:=w1.drew) hb1.drew hb2'⟩
   | some P' =>
     go_enter Tryz.func73,Tryz.ntmps73
     go_wp2_with (go_at_call 81;refine hg.mono ?_;rintro e w1 ⟨rfl,hb1⟩;have b1:=hb2.ext hb1;have k1:=b1.cell;have z1:=b1.lt)
     have z1d:ba<w1.drew.heap.size:=z1
     clear hce
     go_region_with (go_at_call 124;refine (HN.out w1.drew hb1.drew).mono ?_;rintro e w2 ⟨hb2',v,rfl,ho2,hl2⟩;obtain ⟨A2,c2,rfl,_⟩:=own_slice ho2;have b2:BoxA w2 ba 115 #[.slice pA pn pc,.slice rA rn rc,.slice tA tn tc,.slice sA sn sc,.int .i64 kn,.slice RA Rn Rc,.slice SA Sn Sc,.map (some bm),.slice TA Tn Tc,.slice PA Pn Pc]:=BoxA.ext (W:=w1.drew) b1 hb2';have k2:=b2.cell;have z2:=b2.lt;have f2:∀ j,w2.frozen? ⟨ba,j,none⟩=false:=(fun j=>by simp [World.frozen?,show w2.heap[ba]?=_ from b2]))
     all_goals
      have HO2:=hd_ ho2
      clear ho2
      go_wp2
      go_ret
      exact ⟨rfl,w2,A2,c2,bt_ (W:=w1.drew) hb1.drew hb2',own_dn HO2.out (show w.heap.size≤w1.drew.heap.size from hb1.size),hl2,rfl⟩
theorem p_isOnly (l:List Int) (v:Int) (A:Option Addr) (n c:Nat) (w:World) (hn:n≤1000000) (h:Is w w.heap.size A n l) :
 Calls Tryz.prog 70 #[.slice A n c,.int .i64 v] w fun e w'=>e=.returned (.bool (decide (l=[v])))∧w=w':=by
 have hl:=h.len
 by_cases h1:n=1
 ·subst h1
  obtain ⟨b,o,x,rfl,hb,hx,hc⟩:=h.at_ (k:=0) (by omega)
  obtain rfl:l=[x]:=by
   match l,hl with
   | [y],_=>simpa using hx
  have e1:decide ([x]=[v])=(x == v):=by rw [Bool.eq_iff_iff];simp
  rw [e1]
  clear h hl hx e1
  rw [Nat.add_zero] at hc
  go_enter Tryz.func70,Tryz.ntmps70
  go_wp2
  go_ret
  exact ⟨rfl,rfl⟩
 ·have e1:decide (l=[v])=false:=by simp;intro e;rw [e] at hl;simp at hl;omega
  rw [e1]
  clear h hl e1
  go_enter Tryz.func70,Tryz.ntmps70
  go_wp2
  go_ret
  exact ⟨rfl,rfl⟩
theorem p_checkPerson2 (p:Int) (w:World):Calls Tryz.prog 122 #[.int .i64 p] w fun e w'=>e=.returned (.int .i64 (errI (withinB p 0 99) 1))∧w=w':=by
 go_enter Tryz.func122,Tryz.ntmps122
 go_wp2_with (first | (go_at_call 106;refine (p_within _ _ _ _).mono ?_;rintro e w1 ⟨rfl,rfl⟩) | (go_at_call 61;refine (p_verdict _ _ _).mono ?_;rintro e w1 ⟨rfl,rfl⟩))
 go_ret
 exact ⟨rfl,rfl⟩
theorem p_checkFolio (pp:List Ppr) (x:Lsl) (a b:Int) (w:World) (hn:x.pn≤9223372036854775807) (hd:Pps w w.heap.size x.pA x.pn pp) :
 Calls Tryz.prog 72 #[.agg #[.slice x.pA x.pn x.pc,.slice x.rA x.rn x.rc,.slice x.tA x.tn x.tc,.slice x.sA x.sn x.sc],.agg #[.int .i64 a,.int .i64 b]] w fun e w'=>e=.returned (.int .i64 (errI (folB pp a b) 26))∧Below w.heap.size w w':=by
 have HD:Hid (∀ W:World,Below w.heap.size w W→Calls Tryz.prog 60 #[.agg #[.slice x.pA x.pn x.pc,.slice x.rA x.rn x.rc,.slice x.tA x.tn x.tc,.slice x.sA x.sn x.sc],.agg #[.int .i64 a,.int .i64 b]] W fun e w'=>e=.returned (.bool (folB pp a b))∧Below W.heap.size W w'):=by
  show ∀ _,_
  exact fun W hW=>p_has pp x a b W hn (hd.now abP hW)
 clear hd
 go_enter Tryz.func72,Tryz.ntmps72
 go_wp2_with (first | (go_at_call 60;refine (HD.out _ (by exact bel_)).mono ?_;rintro e w1 ⟨rfl,hb1⟩;have HB1:Below w.heap.size w w1:=bt_ (by exact bel_) hb1) | (go_at_call 61;refine (p_verdict _ _ _).mono ?_;rintro e w1 ⟨rfl,rfl⟩))
 go_ret
 exact ⟨rfl,HB1⟩
theorem p_checkPaper2 (pp:List Ppr) (x:Lsl) (a:Int) (w:World) (hn:x.pn≤9223372036854775807) (hd:Pps w w.heap.size x.pA x.pn pp) :
 Calls Tryz.prog 66 #[.agg #[.slice x.pA x.pn x.pc,.slice x.rA x.rn x.rc,.slice x.tA x.tn x.tc,.slice x.sA x.sn x.sc],.int .i64 a] w fun e w'=>e=.returned (.int .i64 (errI (folB pp a 1) 26))∧Below w.heap.size w w':=by
 have HD:Hid (∀ W:World,Below w.heap.size w W→Calls Tryz.prog 72 #[.agg #[.slice x.pA x.pn x.pc,.slice x.rA x.rn x.rc,.slice x.tA x.tn x.tc,.slice x.sA x.sn x.sc],.agg #[.int .i64 a,.int .i64 1]] W fun e w'=>e=.returned (.int .i64 (errI (folB pp a 1) 26))∧Below W.heap.size W w'):=by
  show ∀ _,_
  exact fun W hW=>p_checkFolio pp x a 1 W hn (hd.now abP hW)
 clear hd
 go_enter Tryz.func66,Tryz.ntmps66
 go_wp2_with (go_at_call 72;refine (HD.out _ (by exact bel_)).mono ?_;rintro e w1 ⟨rfl,hb1⟩;have HB1:Below w.heap.size w w1:=bt_ (by exact bel_) hb1)
 go_ret
 exact ⟨rfl,HB1⟩
def trueD (days:List Int) (P:List (Int × Int)):Bool:=(List.zip days P).all fun x=>withinB x.1 x.2.1 x.2.2
theorem sq_of_own {w:World} {base n c:Nat} {t:TypeId} {A:Option Addr} {fs:List (Int × Int)} (h:w.ownsRow base t 2 (.slice A n c) n (folCells fs)) (hn:fs.length=n):Sq QF 2 w w.heap.size A n fs:=by
 have hr:=Rd.of_own h
 refine ⟨hn,fun h0=>?_⟩
 obtain ⟨b,o,e,hb,hc⟩:=hr.2 h0
 refine ⟨b,o,e,hb,fun k f hf=>?_⟩
 obtain ⟨h1,h2⟩:=folCells_get fs k f hf
 exact ⟨hc _ _ h1,by have:=hc _ _ h2;rwa [← Nat.add_assoc] at this⟩
def RetTrue (d:Option (Rcp × Rcp)) (o:Option (List (Int × Int))) (days:List Int) (ba n:Nat) (w:World) (e:Ending) (w':World):Prop :=
 (days.length≠n→e=.returned (.int .i64 29)∧Below w.heap.size w w') ∧
 (days.length=n→match d,o with
   | some _,_=>e=.returned (.int .i64 29)∧Below w.heap.size w w'
   | none,none=>e=.returned (.int .i64 29)∧Below w.heap.size w w'
   | none,some P=>e=.returned (.int .i64 (errI (trueD days P) 29))∧∃ ws,RetSet none (some P) ba n w (.returned (.int .i64 0)) ws∧Below ws.heap.size ws w')
set_option maxRecDepth 10000 in
theorem p_checkTrue (M:List ((Int × Int) × Nat)) (R:List Rcp) (P:List (Int × Int)) (S:List Sgt) (days:List Int) (a:Acc) (ba:Nat) (D:Option Addr) (m c:Nat) (w:World) (h:AccR w a M R P) (hS:sgsOk S) (hn:a.Sn≤1000000) (hs:Sgs w w.heap.size a.SA a.Sn S)
 (hb:BoxA w ba 115 #[.slice a.x.pA a.x.pn a.x.pc,.slice a.x.rA a.x.rn a.x.rc,.slice a.x.tA a.x.tn a.x.tc,.slice a.x.sA a.x.sn a.x.sc,.int .i64 a.kn,.slice a.RA a.Rn a.Rc,.slice a.SA a.Sn a.Sc,.map (some a.bm),.slice a.TA a.Tn a.Tc,.slice a.PA a.Pn a.Pc])
 (hm:m≤9223372036854775807) (hdy:Is w ba D m days) :
 Calls Tryz.prog 65 #[.pointer (some ⟨ba,0,none⟩),.slice D m c] w (RetTrue (dblR M P R) (narL M R S P) days ba a.Pn w):=by
 have hset:=p_settle M R P S a ba w h hS hn hs hb
 have hPn0:=h.nP
 obtain ⟨⟨pA,pn,pc,rA,rn,rc,tA,tn,tc,sA,sn,sc⟩,kn,RA,Rn,Rc,SA,Sn,Sc,bm,TA,Tn,Tc,PA,Pn,Pc⟩:=a
 have hPn:Pn≤100000:=hPn0
 obtain ⟨d,hd⟩:∃ d,dblR M P R=d:=⟨_,rfl⟩
 obtain ⟨o,ho⟩:∃ o,narL M R S P=o:=⟨_,rfl⟩
 rw [hd,ho] at hset ⊢
 have HSET:Hid (Calls Tryz.prog 73 #[.pointer (some ⟨ba,0,none⟩)] w (RetSet d o ba Pn w)):=by show Calls _ _ _ _ _;exact hset
 have hb2:BoxA w ba 115 #[.slice pA pn pc,.slice rA rn rc,.slice tA tn tc,.slice sA sn sc,.int .i64 kn,.slice RA Rn Rc,.slice SA Sn Sc,.map (some bm),.slice TA Tn Tc,.slice PA Pn Pc]:=hb
 have hce:=hb2.cell
 have hlt:=hb2.lt
 have hml:days.length=m:=hdy.len
 have HDY:=hd_ hdy
 have HML:=hd_ hml
 clear h hS hn hs hb hd ho hset hdy hPn0
 show Calls _ _ _ _ (RetTrue d o days ba Pn w)
 by_cases hmn:m=Pn
 ·subst hmn
  clear hml
  have fin:∀ (w':World),Below w.heap.size w w'→(∀ P,¬ (d=none∧o=some P))→RetTrue d o days ba m w (.returned (.int .i64 29)) w':=fun w' hb h=>⟨fun hne=>absurd HML.out hne,fun _=>by
   cases d with
   | some p=>exact ⟨rfl,hb⟩
   | none=>cases o with
     | none=>exact ⟨rfl,hb⟩
     | some P=>exact absurd ⟨rfl,rfl⟩ (h P)⟩
  have HFIN:=hd_ fin
  clear fin
  cases d with
  | some p =>
    go_enter Tryz.func65,Tryz.ntmps65
    go_wp2_with (go_at_call 73;refine HSET.out.mono ?_;rintro e w1 ⟨rfl,hb1⟩)
    go_ret
    exact HFIN.out _ hb1 (fun P h=>by cases h.1)
  | none =>
    cases o with
    | none =>
      go_enter Tryz.func65,Tryz.ntmps65
      go_wp2_with (go_at_call 73;refine HSET.out.mono ?_;rintro e w1 ⟨rfl,hb1⟩)
      go_ret
      exact HFIN.out _ hb1 (fun P h=>by cases h.2)
    | some P' =>
      go_enter Tryz.func65,Tryz.ntmps65
      go_wp2_with (go_at_call 73;refine HSET.out.mono ?_;rintro e ws ⟨rfl,w1,A,c1,hb1,ho1,hl1,hws⟩;have bs:BoxA ws ba 115 #[.slice pA pn pc,.slice rA rn rc,.slice tA tn tc,.slice sA sn sc,.int .i64 kn,.slice RA Rn Rc,.slice SA Sn Sc,.map (some bm),.slice TA Tn Tc,.slice A m c1]:=(by rw [hws];exact (hb2.ext hb1).set 9 _);have HWS:=hd_ hws;clear hws hce;have ks:=bs.cell;have zs:=bs.lt)
      have hws:=HWS.out
      have hne:∀ k,(Value.slice A m c1).ownBlock=some k→k≠ba:=fun k hk e=>by
       obtain ⟨cur,hh⟩:=own_block ho1 hk
       rw [e,show w1.heap[ba]?=_ from hb2.ext hb1] at hh
       injection hh with hh
       injection hh with _ ht
       exact absurd ht (by decide)
      have hos:ws.ownsRow w.heap.size 133 2 (.slice A m c1) m (folCells P'):=by rw [hws];exact own_keep ho1 fun k hk=>Below.heap_setCell _ _ _ _ (hne k hk)
      have hBs:Below ba w ws:=by rw [hws];exact (hb1.mono (Nat.le_of_lt hlt)).setCell lr_ _
      have HSQ:=hd_ (sq_of_own hos hl1)
      have HDS:=hd_ (Rd.below HDY.out hBs)
      have HRS:Hid (RetSet none (some P') ba m w (.returned (.int .i64 0)) ws):=by show RetSet _ _ _ _ _ _ _;exact ⟨rfl,w1,A,c1,hb1,ho1,hl1,hws⟩
      have HLP:=hd_ hl1
      have hab:ba<ws.heap.size:=zs
      clear hos hne ho1 hb1 hws hb2 hBs hl1 HWS
      obtain ⟨q,hq⟩:∃ q,trueD days P'=q:=⟨_,rfl⟩
      have HQ:=hd_ hq
      clear hq
      have hfin:∀ w',Below ws.heap.size ws w'→RetTrue none (some P') days ba m w (.returned (.int .i64 (errI q 29))) w':=fun w' hb=>⟨fun hne=>absurd HML.out hne,fun _=>⟨by rw [HQ.out],ws,HRS.out,hb⟩⟩
      have HFI:=hd_ hfin
      clear hfin HFIN
      go_loopw [25] (fun i wr=>∃ k:Nat,k≤m∧i=.int .i64 k∧((List.zip days P').take k).all (fun x=>withinB x.1 x.2.1 x.2.2)=true∧Below ws.heap.size ws wr) (fun i _=>m - (intOf i).toNat)
      case atStart=>exact ⟨0,by omega,rfl,rfl,Below.refl _ _⟩
      case round =>
       obtain ⟨k,hk,rfl,hall,hB⟩:=hrel
       have HA:=hd_ hall
       clear hall
       have hsB:=hB.size
       by_cases hlt2:k<m
       ·obtain ⟨b,o,f,hAe,hbb,hf,q0,q1⟩:=(Sq.ext HSQ.out abF hB lr_).at_ hlt2
        obtain ⟨b3,o3,x,rfl,hb3,hx,hc3⟩:=(show Is wr ba D m days from Is.ext HDS.out hB (Nat.le_of_lt hab)).at_ hlt2
        have hz:(List.zip days P')[k]?=some (x,f):=by rw [List.getElem?_zip_eq_some];exact ⟨hx,hf⟩
        have HZ:=hd_ hz
        clear hz hf hx
        have hbr:b<wr.heap.size:=by omega
        have hbr3:b3<wr.heap.size:=by omega
        have hbr1:b<wr.heap.size+1:=by omega
        have hbr31:b3<wr.heap.size+1:=by omega
        cases hw:withinB x f.1 f.2 with
        | true =>
          have HF:Hid (((List.zip days P').take (k+1)).all (fun x=>withinB x.1 x.2.1 x.2.2)=true):=by
           show _=_
           rw [take_snoc_some HZ.out,List.all_append,HA.out]
           simp [hw]
          have HW:=hd_ hw
          clear hw
          go_wp2_with fail
          (refine rg_ ?_;(repeat (go_big_quiet_step ((first | (go_at_call 106;exact Calls.grow_same (p_within_v _ _ _ true _ HW.out))))));refine qn_ fun w1 hb1 hc1 hf1=>?_)
          go_wp2_with fail
          go_roundw
          case rel=>exact ⟨k+1,by omega,by go_num,HF.out,bt_ (W:=wr.alloc (.cells #[.int .i64 f.1,.int .i64 f.2] 133)) (hB.alloc hsB _) hb1⟩
          case measure=>exact ms_
        | false =>
          have hqf:q=false:=by
           rw [← HQ.out,trueD,List.all_eq_false]
           exact ⟨_,List.mem_of_getElem? HZ.out,by simp [hw]⟩
          subst hqf
          have HW:=hd_ hw
          clear hw
          go_wp2_with fail
          (refine rg_ ?_;(repeat (go_big_quiet_step ((first | (go_at_call 106;exact Calls.grow_same (p_within_v _ _ _ false _ HW.out))))));refine qn_ fun w1 hb1 hc1 hf1=>?_)
          go_wp2_with fail
          go_ret
          exact HFI.out _ (bt_ (W:=wr.alloc (.cells #[.int .i64 f.1,.int .i64 f.2] 133)) (hB.alloc hsB _) hb1)
       ·have hkn:Hid (k=m):=by show _=_;omega
        have hqt:q=true:=by
         have:=HA.out
         rw [List.take_of_length_le (by rw [List.length_zip,HLP.out,HML.out,hkn.out];simp)] at this
         rw [← HQ.out,trueD,this]
        subst hqt
        go_wp2
        go_ret
        exact HFI.out _ hB
 ·have hmd:(m == Pn)=false:=by simpa using hmn
  clear hml
  go_enter Tryz.func65,Tryz.ntmps65
  go_wp2
  go_ret
  exact ⟨fun _=>⟨rfl,Below.refl _ _⟩,fun he=>absurd (HML.out.symm.trans he) hmn⟩
def rtAt (src leaf:Int) (p:Bool × Rtn):Bool:=p.1 && (decide (p.2.rcp=src) && decide (leaf∈p.2.lv))
def rtIx (T:List Bool) (rt:List Rtn) (src leaf:Int):Option Nat:=(List.zip T rt).findIdx? (rtAt src leaf)
set_option maxRecDepth 10000 in
theorem r_returnOf (l:Led) (v:Vw) (T:List Bool) (i:Nat) (r:Rcp) (leaf:Int) (w:World) (hn:v.x.rn≤1000000) (htn:v.x.tn≤1000000) (hTt:v.Tn=v.x.tn) (hd:LedIn w w.heap.size v.x l) (hT:Sq QB 1 w w.heap.size v.TA v.Tn T) (hr:l.rc[i]?=some r) :
 Calls Tryz.prog 103 #[vwV v,.int .i64 i,.int .i64 leaf] w fun e w'=>e=.returned (.int .i64 (ixI (rtIx T l.rt r.src leaf)))∧Below w.heap.size w w':=by
 obtain ⟨⟨pA,pn,pc,rA,rn,rc,tA,tn,tc,sA,sn,sc⟩,kn,TA,Tn,Tc,DA,Dn,Dc⟩:=v
 obtain rfl:Tn=tn:=hTt
 show Calls _ _ #[.agg #[.slice pA pn pc,.slice rA rn rc,.slice tA Tn tc,.slice sA sn sc,.int .i64 kn,.slice TA Tn Tc,.slice DA Dn Dc],_,_] _ _
 have HR:Hid (Rcs w w.heap.size rA rn l.rc):=by show Sq _ _ _ _ _ _ _;exact hd.r
 have HT:Hid (Rts w w.heap.size tA Tn l.rt):=by show Sq _ _ _ _ _ _ _;exact hd.t
 have HB:Hid (Sq QB 1 w w.heap.size TA Tn T):=by show Sq _ _ _ _ _ _ _;exact hT
 have hrn:rn≤1000000:=hn
 have hTn:Tn≤1000000:=htn
 have hi:i<rn:=by rw [← HR.out.len];exact (List.getElem?_eq_some_iff.1 hr).1
 obtain ⟨br,or_,r',rfl,hbr,hx,A1,n1,c1,⟨hr0,_,_,_,_,_,_⟩,_,_,_⟩:=HR.out.at_ hi
 obtain rfl:r=r':=Option.some.inj (hr.symm.trans hx)
 clear hd hn hr hx hT htn
 obtain ⟨q,hq⟩:∃ q,rtIx T l.rt r.src leaf=q:=⟨_,rfl⟩
 rw [hq]
 have HQ:=hd_ hq
 clear hq
 go_enter Tryz.func103,Tryz.ntmps103
 go_wp2
 go_loopw [7] (fun i wr=>∃ k:Nat,k≤Tn∧i=.int .i64 k∧((List.zip T l.rt).take k).any (rtAt r.src leaf)=false∧Below w.heap.size w wr∧BoxA wr w.heap.size 89 #[.slice pA pn pc,.slice (some ⟨br,or_,none⟩) rn rc,.slice tA Tn tc,.slice sA sn sc,.int .i64 kn,.slice TA Tn Tc,.slice DA Dn Dc]) (fun i _=>Tn - (intOf i).toNat)
 case atStart=>exact ⟨0,by omega,rfl,rfl,by exact bel_,BoxA.new _ _ _⟩
 case round =>
  obtain ⟨k,hk,rfl,hany,hB,hbx⟩:=hrel
  have HA:=hd_ hany
  clear hany
  have hs0:=hB.size
  have kx:=hbx.cell
  have zx:=hbx.lt
  have hrw:wr.cell? ⟨br,or_+i*7,none⟩=some (.int .i64 r.src):=(hB.cell (p:=⟨br,_,none⟩) hbr).trans hr0
  have hbrw:br<wr.heap.size:=by omega
  by_cases hlt:k<Tn
  ·obtain ⟨bt,ot,tl,rfl,hbt,htl,q0⟩:=(Sq.ext HB.out abB hB lr_).at_ hlt
   obtain ⟨b,o,t,rfl,hb,hx,A2,n2,c2,⟨h0,h1,h2,h3,h4,h5,h6,h7⟩,hi1,hc1,hm1⟩:=(Sq.ext HT.out abT hB lr_).at_ hlt
   have q0:wr.cell? ⟨bt,ot+k,none⟩=some (.bool tl):=by have h:wr.cell? ⟨bt,ot+k*1,none⟩=some (.bool tl):=q0;rwa [Nat.mul_one] at h
   have hz:(List.zip T l.rt)[k]?=some (tl,t):=by rw [List.getElem?_zip_eq_some];exact ⟨htl,hx⟩
   have HZ:=hd_ hz
   have hn2:n2≤9223372036854775807:=by have:maxLen≤9223372036854775807:=(by decide);omega
   have HI:Hid (Is wr wr.heap.size A2 n2 t.lv):=by show Is _ _ _ _ _;exact Is.more hi1 (by omega)
   have hbtw:bt<wr.heap.size:=by omega
   have hbw:b<wr.heap.size:=by omega
   clear hz htl hx hi1
   cases tl with
   | false =>
     have HF:Hid (((List.zip T l.rt).take (k+1)).any (rtAt r.src leaf)=false):=by show _=_;rw [any_take_succ2 HZ.out,HA.out];rfl
     go_wp2_with fail
     (refine rg_ ?_;(repeat (go_big_quiet_step (fail)));refine qn_ fun w1 hb1 hc1 hf1=>?_)
     go_wp2_with fail
     go_roundw
     case rel=>exact ⟨k+1,by omega,by go_num,HF.out,bt_ hB hb1,hbx.ext hb1⟩
     case measure=>exact ms_
   | true =>
     by_cases he:t.rcp=r.src
     ·have hed:(t.rcp == r.src)=true:=by simpa using he
      have HE:=hd_ he
      clear he
      cases hm:decide (leaf∈t.lv) with
      | true =>
        have ho:q=some k:=by rw [← HQ.out];exact ix_found HZ.out (by simp [rtAt,HE.out];simpa using hm) HA.out
        subst ho
        have HM:=hd_ hm
        clear hm
        go_wp2_with fail
        (refine rg_ ?_;(repeat (go_big_quiet_step ((first | (go_at_call_of 18 (Value.slice A2 n2 c2);exact Calls.grow_all (fun g=>r_Has2_v t.lv leaf true A2 n2 c2 g.1 hn2 (HI.out.now g.2) HM.out))))));refine qn_ fun w1 hb1 hc1 hf1=>?_)
        go_wp2_with fail
        go_ret
        exact ⟨rfl,bt_ hB hb1⟩
      | false =>
        have HF:Hid (((List.zip T l.rt).take (k+1)).any (rtAt r.src leaf)=false):=by show _=_;rw [any_take_succ2 HZ.out,HA.out];simp only [rtAt,hm];simp
        have HM:=hd_ hm
        clear hm
        go_wp2_with fail
        (refine rg_ ?_;(repeat (go_big_quiet_step ((first | (go_at_call_of 18 (Value.slice A2 n2 c2);exact Calls.grow_all (fun g=>r_Has2_v t.lv leaf false A2 n2 c2 g.1 hn2 (HI.out.now g.2) HM.out))))));refine qn_ fun w1 hb1 hc1 hf1=>?_)
        go_wp2_with fail
        go_roundw
        case rel=>exact ⟨k+1,by omega,by go_num,HF.out,bt_ hB hb1,hbx.ext hb1⟩
        case measure=>exact ms_
     ·have hed:(t.rcp == r.src)=false:=by simpa using he
      have HF:Hid (((List.zip T l.rt).take (k+1)).any (rtAt r.src leaf)=false):=by show _=_;rw [any_take_succ2 HZ.out,HA.out];simp [rtAt,he]
      clear he
      go_wp2_with fail
      (refine rg_ ?_;(repeat (go_big_quiet_step (fail)));refine qn_ fun w1 hb1 hc1 hf1=>?_)
      go_wp2_with fail
      go_roundw
      case rel=>exact ⟨k+1,by omega,by go_num,HF.out,bt_ hB hb1,hbx.ext hb1⟩
      case measure=>exact ms_
  ·have hkn:Hid (k=Tn):=by show _=_;omega
   have ho:q=none:=by
    have:=HA.out
    rw [List.take_of_length_le (by rw [List.length_zip,HB.out.len,HT.out.len,hkn.out];simp)] at this
    rw [← HQ.out]
    exact ix_none this
   subst ho
   go_wp2
   go_ret
   exact ⟨rfl,hB⟩
end Go.Proofs.YtmcmbicapdcfmaaGreat
