/- Layer 2 of the texts that LoanBack takes: Bbhq. -/
import Derived.Test.YtmcmbicapdcfmaaGreatBbbq
set_option linter.unusedVariables false
set_option linter.unusedSimpArgs false
set_option maxHeartbeats 16000000
namespace Go.Proofs.YtmcmbicapdcfmaaGreat
open Go.RowKit Go.Maps
def refN (l:Led) (T:List Bool) (kn:Int) (D:List (Int × Int)) (s:Sgt):List (Int × Int) × Bool:=match lastK kn s.pap s.leaf s.day l.rc l.rc.length with
 | none=>(D,decide (s.per=0))
 | some p=>match l.rc[p.1]? with
   | none=>(D,decide (s.per=0))
   | some x=>match rtIx T l.rt x.src s.leaf with
     | none=>(D,decide (s.per=x.bor))
     | some k=>if s.per=x.bor then (D.set k (max (D.getD k (0,0)).1 (s.day+1),(D.getD k (0,0)).2),decide (max (D.getD k (0,0)).1 (s.day+1)≤(D.getD k (0,0)).2))
       else if s.per=0 then (D.set k ((D.getD k (0,0)).1,min (D.getD k (0,0)).2 s.day),decide ((D.getD k (0,0)).1≤min (D.getD k (0,0)).2 s.day))
       else (D,false)
def refL (l:Led) (T:List Bool) (kn:Int):List Sgt→List (Int × Int)→List (Int × Int) × Bool
 | [],D=>(D,true)
 | s :: ss,D=>((refL l T kn ss (refN l T kn D s).1).1,(refN l T kn D s).2 && (refL l T kn ss (refN l T kn D s).1).2)
theorem nar_ref (l:Led) (kn:Int) (h0:∀ r∈l.rc,0≤r.day) (hb:∀ r∈l.rc,r.bor≠0) (D:List (Int × Int)) (s:Sgt):narS (staySg (opnL l kn).M (cntR l kn) s) D s.per s.day=if (refN l (opnL l kn).T kn D s).2=true then some (refN l (opnL l kn).T kn D s).1 else none:=by
 rw [staySg,stayF_last l kn _ _ _ _ h0,refN]
 cases hL:lastK kn s.pap s.leaf s.day l.rc l.rc.length with
 | none =>
   simp only [lastV,narS]
   by_cases hp:s.per=0
   ·simp [hp]
   ·simp [hp]
 | some p =>
   obtain ⟨j,d⟩:=p
   obtain ⟨_,x,hx,_⟩:=lastK_at hL
   have hbx:=hb x (List.mem_of_getElem? hx)
   simp only [lastV,hx,back_rt]
   cases hk:rtIx (opnL l kn).T l.rt x.src s.leaf with
   | none =>
     simp only [ixI,narS]
     by_cases hp:s.per=x.bor
     ·simp [hp]
     ·simp [hp]
   | some k =>
     have h1:¬ ((k:Int)<0):=by omega
     simp only [ixI,narS,h1,or_false,Int.toNat_natCast]
     by_cases hp:s.per=x.bor
     ·have hn0:s.per≠0:=by rw [hp];exact hbx
      simp only [hp,ne_eq,not_true_eq_false,false_and,if_false,if_true,narD,hbx,decide_eq_true_eq]
      split <;> split <;> first | rfl | omega
     ·by_cases h2:s.per=0
      ·have h3:¬ ((0:Int)=x.bor):=fun h=>hbx h.symm
       simp only [h2,ne_eq,h3,not_false_eq_true,not_true_eq_false,and_false,if_false,if_true,narD,decide_eq_true_eq]
       split <;> split <;> first | rfl | omega
      ·simp [hp,h2]
theorem nar_all (l:Led) (kn:Int) (h0:∀ r∈l.rc,0≤r.day) (hb:∀ r∈l.rc,r.bor≠0):∀ (ss:List Sgt) (D:List (Int × Int)),narL (opnL l kn).M (cntR l kn) ss D=if (refL l (opnL l kn).T kn ss D).2=true then some (refL l (opnL l kn).T kn ss D).1 else none
 | [],D=>rfl
 | s :: ss,D=>by
   rw [narL,nar_ref l kn h0 hb,refL]
   cases h:(refN l (opnL l kn).T kn D s).2 with
   | false=>rfl
   | true=>exact nar_all l kn h0 hb ss _
structure Rw where
 A:Option Addr
 (n c:Nat)
 xs:List Int
def Rw.v (r:Rw):Value:=.slice r.A r.n r.c
structure RwAt (lo:Nat) (W:World) (r:Rw):Prop where
 len:r.xs.length=r.n
 cap:r.n≤r.c∧r.c≤maxLen
 at_:r.A=none∧r.n=0∧r.c=0∨∃ b,r.A=some ⟨b,0,none⟩∧lo≤b∧BoxA W b 3 (intL r.xs).toArray
theorem RwAt.ext {lo:Nat} {W W':World} {r:Rw} (h:RwAt lo W r) (hb:Below W.heap.size W W'):RwAt lo W' r:=⟨h.len,h.cap,h.at_.imp id fun ⟨b,e,hl,hx⟩=>⟨b,e,hl,hx.ext hb⟩⟩
theorem RwAt.kept {lo base size n:Nat} {W W':World} {r:Rw} {t:TypeId} {v:Value} {xs:List Value} (h:RwAt lo W r) (ho:W.ownsRow base t size v n xs) (ht:t≠3) (hg:W.grownBy W' v.ownBlock):RwAt lo W' r:=⟨h.len,h.cap,h.at_.imp id fun ⟨b,e,hl,hx⟩=>⟨b,e,hl,hx.kept hg (fun he=>by
 obtain ⟨cur,hh⟩:=own_block ho he.symm
 have h2:W.heap[b]?=some (.cells (intL r.xs).toArray 3 (0,0)):=hx
 rw [h2] at hh
 injection hh with hh
 injection hh with _ h3
 exact ht h3.symm)⟩⟩
theorem RwAt.is {lo:Nat} {W:World} {r:Rw} (h:RwAt lo W r):Is W W.heap.size r.A r.n r.xs:=by
 rcases h.at_ with ⟨h1,h2,-⟩ | ⟨b,h1,-,hx⟩
 ·have h3:=h.len
  rw [h2] at h3
  rw [h1,h2,List.eq_nil_of_length_eq_zero h3]
  exact Rd.nil_
 ·rw [h1]
  exact is_box hx h.len
structure TlI (wv:World) (fs:List (Int × Int)) (WF:Int × Int→List Int) (rs:List Rw) (v:Value) (wr:World):Prop where
 own:wr.ownsRow wv.heap.size 33 1 v fs.length (rs.map Rw.v)
 xs:rs.map Rw.xs=fs.map WF
 at_:∀ r∈rs,RwAt wv.heap.size wr r
 bel:Below wv.heap.size wv wr
theorem TlI.snoc {wv wr w9 w10:World} {fs:List (Int × Int)} {f:Int × Int} {WF:Int × Int→List Int} {rs:List Rw} {r:Rw} {v v':Value} (h:TlI wv fs WF rs v wr) (hx:r.xs=WF f) (h9:Below wr.heap.size wr w9) (hr:RwAt wv.heap.size w9 r) (ho:w10.ownsRow wv.heap.size 33 1 v' (fs.length+1) (rs.map Rw.v ++ [r.v])) (hg:w9.grownBy w10 v.ownBlock):TlI wv (fs ++ [f]) WF (rs ++ [r]) v' w10:=by
 have h9o:=own_ex h.own h9
 refine ⟨?_,?_,?_,?_⟩
 ·rw [List.length_append,List.map_append]
  exact ho
 ·rw [List.map_append,List.map_append,h.xs,List.map_cons,List.map_nil,List.map_cons,List.map_nil,hx]
 ·intro q hq
  rcases List.mem_append.1 hq with hq | hq
  ·exact ((h.at_ q hq).ext h9).kept h9o (by decide) hg
  ·obtain rfl:q=r:=by simpa using hq
   exact hr.kept h9o (by decide) hg
 ·have h1:Below wv.heap.size wv w9:=h.bel.trans (h9.mono h.bel.size)
  exact h1.grown hg h1.size fun k ek=>own_base h.own ek
def conB (l:Led) (kn:Int) (S:List Sgt):Bool:=(narL (opnL l kn).M (cntR l kn) S (opnL l kn).P).isNone
def clash2 (l:Led) (kn:Int):List Sgt→Option (Sgt × Sgt)
 | []=>none
 | x :: S=>match S.find? (fun y=>conB l kn [x,y]) with
   | some y=>some (x,y)
   | none=>clash2 l kn S
theorem clash2_some {l:Led} {kn:Int} {xs:List Sgt} {k:Nat} {x y:Sgt} {o:Option (Sgt × Sgt)} (hx:xs[k]?=some x) (hf:(xs.drop (k+1)).find? (fun y=>conB l kn [x,y])=some y) (ho:clash2 l kn (xs.drop k)=o):o=some (x,y):=by
 have hlt:k<xs.length:=(List.getElem?_eq_some_iff.1 hx).1
 rw [List.drop_eq_getElem_cons hlt,(List.getElem?_eq_some_iff.1 hx).2,clash2,hf] at ho
 exact ho.symm
theorem clash2_none {l:Led} {kn:Int} {xs:List Sgt} {k:Nat} {x:Sgt} {o:Option (Sgt × Sgt)} (hx:xs[k]?=some x) (hf:(xs.drop (k+1)).find? (fun y=>conB l kn [x,y])=none) (ho:clash2 l kn (xs.drop k)=o):clash2 l kn (xs.drop (k+1))=o:=by
 have hlt:k<xs.length:=(List.getElem?_eq_some_iff.1 hx).1
 rw [List.drop_eq_getElem_cons hlt,(List.getElem?_eq_some_iff.1 hx).2,clash2,hf] at ho
 exact ho
def clashR:Option (Sgt × Sgt)→List Int × Int
 | some p=>([p.1.src,p.2.src],0)
 | none=>([],28)
def clashX (l:Led) (kn:Int):List Int × Int:=if preE l [kn]=0 then (match dblR (opnL l kn).M (opnL l kn).P (cntR l kn) with
 | some _=>([],25)
 | none=>match (cntS l kn).find? (fun s=>conB l kn [s]) with
   | some s=>([s.src],0)
   | none=>clashR (clash2 l kn (cntS l kn))) else ([],preE l [kn])
theorem p_contradictA (l:Led) (kn:Int) (S:List Sgt) (v:Bool) (a:Acc) (A:Option Addr) (n c:Nat) (w:World) (hl:LedOk l) (h:OpnA w a l kn) (hS:∀ s∈S,s∈cntS l kn) (hn:n≤1000000) (hs:Sgs w w.heap.size A n S) (hv:conB l kn S=v) :
 Calls Tryz.prog 82 #[accV a,.slice A n c] w fun e w'=>e=.returned (.bool v)∧Below w.heap.size w w':=by
 subst hv
 exact p_contradict _ _ _ _ _ _ _ _ _ h.acc (fun s hs=>cnt_sgs hl kn s (hS s hs)) hn hs
theorem sgs_new1 (W:World) (s:Sgt) (b:Nat) (hb:W.heap.size=b):Sgs (W.alloc (.cells (sgC s).toArray 70)) (W.alloc (.cells (sgC s).toArray 70)).heap.size (some ⟨b,0,none⟩) 1 [s] :=
 sq_sg (Rd.new W (sgC s).toArray 70 7 1 b hb rfl) rfl
theorem sgs_new2 (W:World) (s t:Sgt) (b:Nat) (hb:W.heap.size=b):Sgs (W.alloc (.cells (sgC s ++ sgC t).toArray 70)) (W.alloc (.cells (sgC s ++ sgC t).toArray 70)).heap.size (some ⟨b,0,none⟩) 2 [s,t] :=
 sq_sg (Rd.new W (sgC s ++ sgC t).toArray 70 7 2 b hb rfl) rfl
set_option maxRecDepth 10000 in
theorem p_Clash (l:Led) (x:Lsl) (kn:Int) (w:World) (hf:x.fit) (hd:LedIn w w.heap.size x l) :
 Calls Tryz.prog 29 #[.agg #[.slice x.pA x.pn x.pc,.slice x.rA x.rn x.rc,.slice x.tA x.tn x.tc,.slice x.sA x.sn x.sc],.int .i64 kn] w (RetLE (clashX l kn) w):=by
 obtain ⟨pA,pn,pc,rA,rn,rc,tA,tn,tc,sA,sn,sc⟩:=x
 have HD:=hd_ hd
 have hml:maxLen≤9223372036854775807:=by decide
 have hpn:pn≤9223372036854775807:=by have:=hf.p;dsimp only at this;omega
 have hrn:rn≤9223372036854775807:=by have:=hf.r;dsimp only at this;omega
 have htn:tn≤9223372036854775807:=by have:=hf.t;dsimp only at this;omega
 have hsn:sn≤9223372036854775807:=by have:=hf.s;dsimp only at this;omega
 clear hd hf hml
 obtain ⟨v,hv⟩:∃ v,preE l [kn]=v:=⟨_,rfl⟩
 have HV:Hid (orL [errI (ledB l) 24,errI (daysOk [kn]) 6]=v):=by show _=_;exact hv
 by_cases hv0:v=0
 ·subst hv0
  have HLO:=hd_ (led_ok (pre_zero hv).1)
  cases hdr:dblR (opnL l kn).M (opnL l kn).P (cntR l kn) with
  | some q =>
    have hres:clashX l kn=([],25):=by rw [clashX,if_pos hv,hdr]
    rw [hres]
    have HDR:=hd_ hdr
    clear hres hdr hv
    go_enter Tryz.func29,Tryz.ntmps29
    go_wp2_with (first | (go_at_call 12;refine (p_Check l ⟨pA,pn,pc,rA,rn,rc,tA,tn,tc,sA,sn,sc⟩ _ hpn hrn htn hsn (HD.out.now (by exact bel_))).mono ?_;rintro e w1 ⟨rfl,hb1⟩;have HB1:Below w.heap.size w w1:=bt_ (by exact bel_) hb1;have hs1:=HB1.size;have bL0:=BoxA.new w 32 #[.slice pA pn pc,.slice rA rn rc,.slice tA tn tc,.slice sA sn sc];have bL1:=bL0.ext hb1;have kL1:=bL1.cell;have zL1:=bL1.lt;clear hb1) | (go_at_call 63;refine (p_checkDays [kn] _ 1 1 _ (by decide) (Rd.new _ #[.int .i64 kn] _ 1 1 _ (by simp) rfl)).mono ?_;rintro e w2 ⟨rfl,hb2⟩;have HB2:Below w.heap.size w w2:=bt_ (by exact bel_) hb2;have hs2:=HB2.size;have bL2:=(bL1.alloc _).ext hb2;have kL2:=bL2.cell;have zL2:=bL2.lt;clear kL1 zL1;clear hb2) | (go_at_call 62;refine (p_first [errI (ledB l) 24,errI (daysOk [kn]) 6] 0 _ 2 2 _ (by decide) (Rd.new _ #[.int .i64 (errI (ledB l) 24),.int .i64 (errI (daysOk [kn]) 6)] _ 1 2 _ (by simp) rfl) HV.out).mono ?_;rintro e w1 ⟨rfl,rfl⟩) | (go_at_call 64;refine (p_openA l ⟨pA,pn,pc,rA,rn,rc,tA,tn,tc,sA,sn,sc⟩ kn _ HLO.out (HD.out.now (by exact bel_))).mono ?_;rintro e w5 ⟨RA,Rn,Rc,SA,Sn,Sc,bm,TA,Tn,Tc,PA,Pn,Pc,rfl,hb5,hO⟩;have HB5:Below w.heap.size w w5:=bt_ (by exact bel_) hb5;have hs5:=HB5.size;have HO:=hd_ hO;have bL5:=(bL2.alloc _).ext hb5;have kL5:=bL5.cell;have zL5:=bL5.lt;clear kL2 zL2;clear hO hb5) | (go_at_call 81;have hag:=p_agree (opnL l kn).M (cntR l kn) (opnL l kn).P ⟨⟨pA,pn,pc,rA,rn,rc,tA,tn,tc,sA,sn,sc⟩,kn,RA,Rn,Rc,SA,Sn,Sc,bm,TA,Tn,Tc,PA,Pn,Pc⟩ (w5.alloc (.cells #[.slice pA pn pc,.slice rA rn rc,.slice tA tn tc,.slice sA sn sc,.int .i64 kn,.slice RA Rn Rc,.slice SA Sn Sc,.map (some bm),.slice TA Tn Tc,.slice PA Pn Pc] 115)) (HO.out.acc.now (by exact bel_));rw [HDR.out] at hag;simp only [Option.isNone_none,Option.isNone_some,errI] at hag;refine hag.mono ?_;rintro e w6 ⟨rfl,hb6⟩;have HB6:Below w.heap.size w w6:=bt_ HB5 (bt_ (by exact bel_) hb6);have hs6:=HB6.size;have bA6:=(BoxA.new w5 115 #[.slice pA pn pc,.slice rA rn rc,.slice tA tn tc,.slice sA sn sc,.int .i64 kn,.slice RA Rn Rc,.slice SA Sn Sc,.map (some bm),.slice TA Tn Tc,.slice PA Pn Pc]).ext hb6;have k6:=bA6.cell;have z6:=bA6.lt;have HO6:=hd_ ((HO.out.now (show Below w5.heap.size w5 (w5.alloc (.cells #[.slice pA pn pc,.slice rA rn rc,.slice tA tn tc,.slice sA sn sc,.int .i64 kn,.slice RA Rn Rc,.slice SA Sn Sc,.map (some bm),.slice TA Tn Tc,.slice PA Pn Pc] 115)) by exact bel_)).now hb6);have HBA:=hd_ bA6;clear kL5 zL5 hb6))
    go_ret2
    exact RetLE.err HB6
  | none =>
    obtain ⟨r,hres⟩:∃ r,clashX l kn=r:=⟨_,rfl⟩
    rw [hres]
    have HDR:=hd_ hdr
    have HV0:=hd_ hv
    have HRES:=hd_ hres
    clear hres hdr hv
    go_enter Tryz.func29,Tryz.ntmps29
    go_wp2_with (first | (go_at_call 12;refine (p_Check l ⟨pA,pn,pc,rA,rn,rc,tA,tn,tc,sA,sn,sc⟩ _ hpn hrn htn hsn (HD.out.now (by exact bel_))).mono ?_;rintro e w1 ⟨rfl,hb1⟩;have HB1:Below w.heap.size w w1:=bt_ (by exact bel_) hb1;have hs1:=HB1.size;have bL0:=BoxA.new w 32 #[.slice pA pn pc,.slice rA rn rc,.slice tA tn tc,.slice sA sn sc];have bL1:=bL0.ext hb1;have kL1:=bL1.cell;have zL1:=bL1.lt;clear hb1) | (go_at_call 63;refine (p_checkDays [kn] _ 1 1 _ (by decide) (Rd.new _ #[.int .i64 kn] _ 1 1 _ (by simp) rfl)).mono ?_;rintro e w2 ⟨rfl,hb2⟩;have HB2:Below w.heap.size w w2:=bt_ (by exact bel_) hb2;have hs2:=HB2.size;have bL2:=(bL1.alloc _).ext hb2;have kL2:=bL2.cell;have zL2:=bL2.lt;clear kL1 zL1;clear hb2) | (go_at_call 62;refine (p_first [errI (ledB l) 24,errI (daysOk [kn]) 6] 0 _ 2 2 _ (by decide) (Rd.new _ #[.int .i64 (errI (ledB l) 24),.int .i64 (errI (daysOk [kn]) 6)] _ 1 2 _ (by simp) rfl) HV.out).mono ?_;rintro e w1 ⟨rfl,rfl⟩) | (go_at_call 64;refine (p_openA l ⟨pA,pn,pc,rA,rn,rc,tA,tn,tc,sA,sn,sc⟩ kn _ HLO.out (HD.out.now (by exact bel_))).mono ?_;rintro e w5 ⟨RA,Rn,Rc,SA,Sn,Sc,bm,TA,Tn,Tc,PA,Pn,Pc,rfl,hb5,hO⟩;have HB5:Below w.heap.size w w5:=bt_ (by exact bel_) hb5;have hs5:=HB5.size;have HO:=hd_ hO;have bL5:=(bL2.alloc _).ext hb5;have kL5:=bL5.cell;have zL5:=bL5.lt;clear kL2 zL2;clear hO hb5) | (go_at_call 81;have hag:=p_agree (opnL l kn).M (cntR l kn) (opnL l kn).P ⟨⟨pA,pn,pc,rA,rn,rc,tA,tn,tc,sA,sn,sc⟩,kn,RA,Rn,Rc,SA,Sn,Sc,bm,TA,Tn,Tc,PA,Pn,Pc⟩ (w5.alloc (.cells #[.slice pA pn pc,.slice rA rn rc,.slice tA tn tc,.slice sA sn sc,.int .i64 kn,.slice RA Rn Rc,.slice SA Sn Sc,.map (some bm),.slice TA Tn Tc,.slice PA Pn Pc] 115)) (HO.out.acc.now (by exact bel_));rw [HDR.out] at hag;simp only [Option.isNone_none,Option.isNone_some,errI] at hag;refine hag.mono ?_;rintro e w6 ⟨rfl,hb6⟩;have HB6:Below w.heap.size w w6:=bt_ HB5 (bt_ (by exact bel_) hb6);have hs6:=HB6.size;have bA6:=(BoxA.new w5 115 #[.slice pA pn pc,.slice rA rn rc,.slice tA tn tc,.slice sA sn sc,.int .i64 kn,.slice RA Rn Rc,.slice SA Sn Sc,.map (some bm),.slice TA Tn Tc,.slice PA Pn Pc]).ext hb6;have k6:=bA6.cell;have z6:=bA6.lt;have HO6:=hd_ ((HO.out.now (show Below w5.heap.size w5 (w5.alloc (.cells #[.slice pA pn pc,.slice rA rn rc,.slice tA tn tc,.slice sA sn sc,.int .i64 kn,.slice RA Rn Rc,.slice SA Sn Sc,.map (some bm),.slice TA Tn Tc,.slice PA Pn Pc] 115)) by exact bel_)).now hb6);have HBA:=hd_ bA6;clear kL5 zL5 hb6))
    have HCON:Hid (∀ (W:World) (A:Option Addr) (n c:Nat) (S:List Sgt) (v:Bool),Below w6.heap.size w6 W→(∀ s∈S,s∈cntS l kn)→n≤1000000→Sgs W W.heap.size A n S→conB l kn S=v→Calls Tryz.prog 82 #[.agg #[.slice pA pn pc,.slice rA rn rc,.slice tA tn tc,.slice sA sn sc,.int .i64 kn,.slice RA Rn Rc,.slice SA Sn Sc,.map (some bm),.slice TA Tn Tc,.slice PA Pn Pc],.slice A n c] W fun e w'=>e=.returned (.bool v)∧Below W.heap.size W w'):=by
     show ∀ _,_
     exact fun W A n c S v hW hS hn hs hv=>p_contradictA l kn S v ⟨⟨pA,pn,pc,rA,rn,rc,tA,tn,tc,sA,sn,sc⟩,kn,RA,Rn,Rc,SA,Sn,Sc,bm,TA,Tn,Tc,PA,Pn,Pc⟩ A n c W HLO.out (HO6.out.now hW) hS hn hs hv
    have HSL:Hid ((cntS l kn).length=Sn):=by show _=_;exact HO6.out.sg.len
    have hSn:Sn≤60:=HO6.out.sn
    have hScc:Sn≤Sc∧Sc≤maxLen:=HO6.out.cs
    go_loopw [36] (fun i wr=>∃ k:Nat,k≤Sn∧i=.int .i64 k∧((cntS l kn).take k).find? (fun s=>conB l kn [s])=none∧Below w6.heap.size w6 wr) (fun i _=>Sn - (intOf i).toNat)
    case atStart=>exact ⟨0,by omega,rfl,rfl,Below.refl _ _⟩
    case round =>
     obtain ⟨k,hk,rfl,hfk,hB⟩:=hrel
     have HFK:=hd_ hfk
     clear hfk
     have hsB:=hB.size
     have HOw:=hd_ (HO6.out.now hB)
     have bAw:=HBA.out.ext hB
     have kAw:=bAw.cell
     have zAw:=bAw.lt
     have HBAw:=hd_ bAw
     by_cases hlt:k<Sn
     ·obtain ⟨b,o,s,hSA,hb,hs,a0,a1,a2,a3,a4,a5,a6⟩:=HOw.out.sg.at_ hlt
      have HMS:=hd_ (List.mem_of_getElem? hs)
      have HS:=hd_ hs
      obtain ⟨q,hq⟩:∃ q,conB l kn [s]=q:=⟨_,rfl⟩
      have HQ:=hd_ hq
      have hSA':SA=some ⟨b,o,none⟩:=hSA
      subst hSA'
      cases q with
      | true =>
        have hres2:r=([s.src],0):=by rw [← HRES.out,clashX,if_pos HV0.out,HDR.out];simp only [find_at2 HS.out hq HFK.out]
        subst hres2
        clear hs hq hSA
        go_wp2_with (go_at_call 82;refine (HCON.out _ _ _ _ [s] true (hB.trans ((show Below wr.heap.size wr _ by exact bel_).mono hsB)) (fun t ht=>by rw [List.mem_singleton.1 ht];exact HMS.out) (by decide) (sgs_new1 _ s _ (by simp)) HQ.out).mono ?_;rintro e w8 ⟨rfl,hb8⟩;have HB8:Below wr.heap.size wr w8:=bt_ (by exact bel_) hb8;have hs8:=HB8.size;have bs8:=((BoxA.new wr 70 (sgC s).toArray).alloc _).ext hb8;have ks8:=bs8.cell;have zs8:=bs8.lt)
        go_ret2
        have HBf:Below w.heap.size w w8:=HB6.trans ((hB.trans (HB8.mono (by omega))).mono (by omega))
        exact ⟨_,_,_,rfl,by exact bel_,Rd.new _ #[.int .i64 s.src] 3 1 1 _ (by simp) rfl,lr_,by decide⟩
      | false =>
        have HF:Hid (((cntS l kn).take (k+1)).find? (fun s=>conB l kn [s])=none):=by show _=_;exact find_step2 HS.out hq HFK.out
        clear hs hq hSA
        go_wp2_with (go_at_call 82;refine (HCON.out _ _ _ _ [s] false (hB.trans ((show Below wr.heap.size wr _ by exact bel_).mono hsB)) (fun t ht=>by rw [List.mem_singleton.1 ht];exact HMS.out) (by decide) (sgs_new1 _ s _ (by simp)) HQ.out).mono ?_;rintro e w8 ⟨rfl,hb8⟩;have HB8:Below wr.heap.size wr w8:=bt_ (by exact bel_) hb8;have hs8:=HB8.size;have bs8:=((BoxA.new wr 70 (sgC s).toArray).alloc _).ext hb8;have ks8:=bs8.cell;have zs8:=bs8.lt)
        go_roundw
        case rel=>exact ⟨k+1,by omega,by go_num,HF.out,hB.trans (HB8.mono (by omega))⟩
        case measure=>exact ms_
     ·have hkn:Hid (k=Sn):=by show _=_;omega
      have hf1:(cntS l kn).find? (fun s=>conB l kn [s])=none:=by
       have:=HFK.out
       rwa [List.take_of_length_le (by rw [HSL.out,hkn.out];exact lr_)] at this
      obtain ⟨q2,hq2⟩:∃ q,clash2 l kn (cntS l kn)=q:=⟨_,rfl⟩
      have hrr:r=clashR q2:=by
       rw [← HRES.out,clashX,if_pos HV0.out,HDR.out]
       simp only [hf1,hq2]
      have HRR:=hd_ hrr
      have HQ2:=hd_ hq2
      have HBk:=hd_ hB
      clear hrr hq2 hf1
      go_wp2
      go_loopw [51] (fun i wr=>∃ k:Nat,k≤Sn∧i=.int .i64 k∧clash2 l kn ((cntS l kn).drop k)=q2∧Below w6.heap.size w6 wr) (fun i _=>Sn - (intOf i).toNat)
      case atStart=>exact ⟨0,by omega,rfl,HQ2.out,HBk.out⟩
      case round =>
       clear hB HBAw HOw bAw kAw zAw hsB hlt hk
       obtain ⟨k,hk,rfl,hcl,hB⟩:=hrel
       obtain ⟨wo,hwo⟩:∃ wo:World,wo=wr:=⟨_,rfl⟩
       subst hwo
       have HCL:=hd_ hcl
       clear hcl
       have hsB:=hB.size
       have bAw:=HBA.out.ext hB
       have kAw:=bAw.cell
       have zAw:=bAw.lt
       by_cases hlt:k<Sn
       ·have hOo:Sgs wo wo.heap.size SA Sn (cntS l kn):=(HO6.out.now hB).sg
        obtain ⟨b,o,s,hSA,hb,hs,a0,a1,a2,a3,a4,a5,a6⟩:=hOo.at_ hlt
        have HMS:=hd_ (List.mem_of_getElem? hs)
        have HS:=hd_ hs
        have hSA':SA=some ⟨b,o,none⟩:=hSA
        subst hSA'
        obtain ⟨W2,hW2⟩:∃ W2,wo.alloc (.cells (sgC s).toArray 70)=W2:=⟨_,rfl⟩
        have hB2:Below wo.heap.size wo W2:=by rw [← hW2];exact (Below.refl _ _).alloc lr_ _
        have bX:BoxA W2 wo.heap.size 70 (sgC s).toArray:=by rw [← hW2];exact BoxA.new _ _ _
        have HBX:=hd_ bX
        have HW2:=hd_ hW2
        have hs2':wo.heap.size<W2.heap.size:=bX.lt
        have HOo:=hd_ hOo
        clear hs hSA hW2 bX hOo
        by_cases hcap:Sc=k+1
        ·have hnk:Sn=k+1:=by omega
         have hfn:((cntS l kn).drop (k+1)).find? (fun y=>conB l kn [s,y])=none:=by
          rw [List.drop_eq_nil_of_le (by rw [HSL.out];omega)];rfl
         have HN:=hd_ (clash2_none HS.out hfn HCL.out)
         have HNK:=hd_ hnk
         clear hfn
         go_wp2
         go_loopw [62] (fun i wr=>i=.int .i64 0∧Below W2.heap.size W2 wr) (fun _ _=>0)
         case atStart=>exact ⟨rfl,by rw [← HW2.out];exact Below.refl _ _⟩
         case round =>
          obtain ⟨rfl,hB3⟩:=hrel
          have hz:Sn - (k+1)=0:=by have:=HNK.out;omega
          go_wp2
          go_roundw
          case rel=>exact ⟨k+1,by omega,by go_num,HN.out,hB.trans ((hB2.trans (hB3.mono (by omega))).mono (by omega))⟩
          case measure=>exact ms_
        ·have hcap2:¬ (k+1=Sc):=fun h=>hcap h.symm
         have HDR2:=hd_ (HOo.out.drop_ (k:=k+1) (by omega))
         go_wp2
         go_loopw [62] (fun i wr=>∃ j:Nat,j≤Sn - (k+1)∧i=.int .i64 j∧(((cntS l kn).drop (k+1)).take j).find? (fun y=>conB l kn [s,y])=none∧Below W2.heap.size W2 wr) (fun i _=>(Sn - (k+1)) - (intOf i).toNat)
         case atStart=>exact ⟨0,by omega,rfl,rfl,by rw [← HW2.out];exact Below.refl _ _⟩
         case round =>
          obtain ⟨j,hj,rfl,hfj,hB3⟩:=hrel
          have HFJ:=hd_ hfj
          clear hfj
          have hs3:=hB3.size
          have hBo:Below wo.heap.size wo wr:=hB2.trans (hB3.mono (by omega))
          have bAr:=bAw.ext hBo
          have m0:=bAr.cell
          have y0:=bAr.lt
          have bXr:=HBX.out.ext hB3
          have mX:=bXr.cell
          have yX:=bXr.lt
          by_cases hlj:j<Sn - (k+1)
          ·obtain ⟨b',o',y,e',hb',hy,p0,p1,p2,p3,p4,p5,p6⟩:=(HDR2.out.ext abS hBo lr_).at_ hlj
           obtain ⟨rfl,rfl⟩:b=b'∧o+(k+1)*7=o':=by simpa using e'
           have HY:=hd_ hy
           have HMY:Hid (y∈cntS l kn):=by show _∈_;exact List.mem_of_mem_drop (List.mem_of_getElem? hy)
           have hbr':b<wr.heap.size:=by omega
           obtain ⟨q,hq⟩:∃ q,conB l kn [s,y]=q:=⟨_,rfl⟩
           have HQ:=hd_ hq
           cases q with
           | true =>
             have hq2s:=clash2_some HS.out (find_at2 HY.out hq HFJ.out) HCL.out
             have hr2:r=([s.src,y.src],0):=by rw [HRR.out,hq2s];rfl
             subst hr2
             clear hy hq hq2s
             go_wp2_with (go_at_call 82;refine (HCON.out _ _ _ _ [s,y] true (hB.trans ((hBo.trans ((show Below wr.heap.size wr _ by exact bel_).mono (by omega))).mono (by omega))) (fun t ht=>by (rcases List.mem_cons.1 ht with rfl | ht);exact HMS.out;(rw [List.mem_singleton.1 ht];exact HMY.out)) (by decide) (sgs_new2 _ s y _ (by simp)) HQ.out).mono ?_;rintro e w8 ⟨rfl,hb8⟩;have HB8:Below wr.heap.size wr w8:=bt_ (by exact bel_) hb8;have hs8:=HB8.size;have bs8:=((bXr.alloc (.cells (sgC y).toArray 70)).alloc _).ext hb8;have ks8:=bs8.cell;have zs8:=bs8.lt;have by8:=((BoxA.new wr 70 (sgC y).toArray).alloc _).ext hb8;have ky8:=by8.cell;have zy8:=by8.lt)
             go_ret2
             have HBf:Below w.heap.size w w8:=HB6.trans ((hB.trans ((hBo.trans (HB8.mono (by omega))).mono (by omega))).mono (by omega))
             exact ⟨_,_,_,rfl,by exact bel_,Rd.new _ #[.int .i64 s.src,.int .i64 y.src] 3 1 2 _ (by simp) rfl,lr_,by decide⟩
           | false =>
             have HF:Hid ((((cntS l kn).drop (k+1)).take (j+1)).find? (fun y=>conB l kn [s,y])=none):=by show _=_;exact find_step2 HY.out hq HFJ.out
             clear hy hq
             go_wp2_with (go_at_call 82;refine (HCON.out _ _ _ _ [s,y] false (hB.trans ((hBo.trans ((show Below wr.heap.size wr _ by exact bel_).mono (by omega))).mono (by omega))) (fun t ht=>by (rcases List.mem_cons.1 ht with rfl | ht);exact HMS.out;(rw [List.mem_singleton.1 ht];exact HMY.out)) (by decide) (sgs_new2 _ s y _ (by simp)) HQ.out).mono ?_;rintro e w8 ⟨rfl,hb8⟩;have HB8:Below wr.heap.size wr w8:=bt_ (by exact bel_) hb8;have hs8:=HB8.size;have bs8:=((bXr.alloc (.cells (sgC y).toArray 70)).alloc _).ext hb8;have ks8:=bs8.cell;have zs8:=bs8.lt;have by8:=((BoxA.new wr 70 (sgC y).toArray).alloc _).ext hb8;have ky8:=by8.cell;have zy8:=by8.lt)
             go_roundw
             case rel=>exact ⟨j+1,by omega,by go_num,HF.out,hB3.trans (HB8.mono (by omega))⟩
             case measure=>exact ms_
          ·have hjn:Hid (j=Sn - (k+1)):=by show _=_;omega
           have hfn:((cntS l kn).drop (k+1)).find? (fun y=>conB l kn [s,y])=none:=by
            have:=HFJ.out
            rwa [List.take_of_length_le (by rw [List.length_drop,HSL.out,hjn.out];exact lr_)] at this
           have HN:=hd_ (clash2_none HS.out hfn HCL.out)
           clear hfn
           go_wp2
           go_roundw
           case rel=>exact ⟨k+1,by omega,by go_num,HN.out,hB.trans (hBo.mono (by omega))⟩
           case measure=>exact ms_
       ·have hkn2:Hid (k=Sn):=by show _=_;omega
        have hq2n:q2=none:=by
         rw [← HCL.out,List.drop_eq_nil_of_le (by rw [HSL.out,hkn2.out];exact lr_)];rfl
        have hr2:r=([],28):=by rw [HRR.out,hq2n];rfl
        subst hr2
        clear hq2n
        go_wp2
        go_ret2
        exact RetLE.err (HB6.trans (hB.mono (by omega)))
 ·have hres:clashX l kn=([],v):=by rw [clashX,if_neg (by rw [hv];exact hv0),hv]
  rw [hres]
  have hv1:(v != 0)=true:=by simpa using hv0
  clear hres hv hv0
  go_enter Tryz.func29,Tryz.ntmps29
  go_wp2_with (first | (go_at_call 12;refine (p_Check l ⟨pA,pn,pc,rA,rn,rc,tA,tn,tc,sA,sn,sc⟩ _ hpn hrn htn hsn (HD.out.now (by exact bel_))).mono ?_;rintro e w1 ⟨rfl,hb1⟩;have HB1:Below w.heap.size w w1:=bt_ (by exact bel_) hb1;have hs1:=HB1.size;have bL0:=BoxA.new w 32 #[.slice pA pn pc,.slice rA rn rc,.slice tA tn tc,.slice sA sn sc];have bL1:=bL0.ext hb1;have kL1:=bL1.cell;have zL1:=bL1.lt;clear hb1) | (go_at_call 63;refine (p_checkDays [kn] _ 1 1 _ (by decide) (Rd.new _ #[.int .i64 kn] _ 1 1 _ (by simp) rfl)).mono ?_;rintro e w2 ⟨rfl,hb2⟩;have HB2:Below w.heap.size w w2:=bt_ (by exact bel_) hb2;have hs2:=HB2.size;have bL2:=(bL1.alloc _).ext hb2;have kL2:=bL2.cell;have zL2:=bL2.lt;clear kL1 zL1;clear hb2) | (go_at_call 62;refine (p_first [errI (ledB l) 24,errI (daysOk [kn]) 6] v _ 2 2 _ (by decide) (Rd.new _ #[.int .i64 (errI (ledB l) 24),.int .i64 (errI (daysOk [kn]) 6)] _ 1 2 _ (by simp) rfl) HV.out).mono ?_;rintro e w1 ⟨rfl,rfl⟩))
  go_ret2
  exact RetLE.err (by exact bel_)
end Go.Proofs.YtmcmbicapdcfmaaGreat
