/- Layer 2 of the texts that LoanDoubles takes: Vbdq. -/
import Derived.Test.YtoiompoapikkbaaGreatVbcq
set_option linter.unusedVariables false
set_option linter.unusedSimpArgs false
/- Layer 2, the reference: last. -/
namespace Go.Proofs.YtoiompoapikkbaaGreat
open Go.RowKit Go.Maps
theorem r_isOf_v (l:Led) (v:Vw) (i:Nat) (r:Rcp) (pap leaf:Int) (q:Bool) (w:World) (hn:v.x.rn≤1000000) (hd:LedIn w w.heap.size v.x l) (hr:l.rc[i]?=some r) (hq:(countsB r.kn r.un v.kn && isOfB pap leaf r)=q) :
 Calls Tryz.prog 169 #[vwV v,.int .i64 i,.agg #[.int .i64 pap,.int .i64 leaf]] w fun e w'=>e=.returned (.bool q)∧Below w.heap.size w w':=hq ▸ r_isOf l v i r pap leaf w hn hd hr
def newer (s:Option (Nat × Int)) (day:Int):Bool:=match s with
 | none=>true
 | some p=>decide (p.2<day)
def lastStep (kn pap leaf day:Int) (R:List Rcp) (s:Option (Nat × Int)) (i:Nat):Option (Nat × Int):=match R[i]? with
 | none=>s
 | some r=>if ((countsB r.kn r.un kn && isOfB pap leaf r) && (decide (r.day≤day) && newer s r.day))=true then some (i,r.day) else s
def lastK (kn pap leaf day:Int) (R:List Rcp) (k:Nat):Option (Nat × Int):=(List.range k).foldl (lastStep kn pap leaf day R) none
theorem lastK_succ (kn pap leaf day:Int) (R:List Rcp) (k:Nat):lastK kn pap leaf day R (k+1)=lastStep kn pap leaf day R (lastK kn pap leaf day R k) k:=by
 rw [lastK,List.range_succ,List.foldl_append];rfl
theorem lastK_at {kn pap leaf day:Int} {R:List Rcp}:∀ {k:Nat} {j:Nat} {d:Int},lastK kn pap leaf day R k=some (j,d)→j<k∧∃ r,R[j]?=some r∧r.day=d
 | 0,j,d,h=>by simp [lastK] at h
 | k+1,j,d,h=>by
   rw [lastK_succ,lastStep] at h
   cases hr:R[k]? with
   | none =>
     rw [hr] at h
     obtain ⟨h1,h2⟩:=lastK_at h
     exact ⟨by omega,h2⟩
   | some r =>
     rw [hr] at h
     simp only at h
     split at h
     ·simp only [Option.some.injEq,Prod.mk.injEq] at h
      obtain ⟨rfl,rfl⟩:=h
      exact ⟨by omega,r,hr,rfl⟩
     ·obtain ⟨h1,h2⟩:=lastK_at h
      exact ⟨by omega,h2⟩
def lastI:Option (Nat × Int)→Int
 | some p=>p.1
 | none=>-1
set_option maxRecDepth 10000 in
set_option maxHeartbeats 8000000 in
theorem r_last (l:Led) (v:Vw) (pap leaf day:Int) (w:World) (hn:v.x.rn≤1000000) (hd:LedIn w w.heap.size v.x l) :
 Calls Tryz.prog 173 #[vwV v,.agg #[.int .i64 pap,.int .i64 leaf],.int .i64 day] w fun e w'=>e=.returned (.int .i64 (lastI (lastK v.kn pap leaf day l.rc l.rc.length)))∧Below w.heap.size w w':=by
 obtain ⟨⟨pA,pn,pc,rA,rn,rc,tA,tn,tc,sA,sn,sc⟩,kn,TA,Tn,Tc,DA,Dn,Dc⟩:=v
 show Calls _ _ #[.agg #[.slice pA pn pc,.slice rA rn rc,.slice tA tn tc,.slice sA sn sc,.int .i64 kn,.slice TA Tn Tc,.slice DA Dn Dc],_,_] _ (fun e w'=>e=.returned (.int .i64 (lastI (lastK kn pap leaf day l.rc l.rc.length)))∧Below w.heap.size w w')
 have HI:Hid (∀ (W:World) (i:Nat) (r:Rcp) (q:Bool),Below w.heap.size w W→l.rc[i]?=some r→(countsB r.kn r.un kn && isOfB pap leaf r)=q→Calls Tryz.prog 169 #[.agg #[.slice pA pn pc,.slice rA rn rc,.slice tA tn tc,.slice sA sn sc,.int .i64 kn,.slice TA Tn Tc,.slice DA Dn Dc],.int .i64 i,.agg #[.int .i64 pap,.int .i64 leaf]] W fun e w'=>e=.returned (.bool q)∧Below W.heap.size W w'):=by
  show ∀ _,_
  exact fun W i r q hW h1 h2=>r_isOf_v l ⟨⟨pA,pn,pc,rA,rn,rc,tA,tn,tc,sA,sn,sc⟩,kn,TA,Tn,Tc,DA,Dn,Dc⟩ i r pap leaf q W hn (hd.now hW) h1 h2
 have HR:Hid (Rcs w w.heap.size rA rn l.rc):=by show Sq _ _ _ _ _ _ _;exact hd.r
 have hrn:rn≤1000000:=hn
 rw [HR.out.len]
 clear hd hn
 go_enter Tryz.func173,Tryz.ntmps173
 go_wp2
 go_loopw [7,8] (fun u i wr=>∃ k:Nat,k≤rn∧i=.int .i64 k∧u=.int .i64 (lastI (lastK kn pap leaf day l.rc k))∧Below w.heap.size w wr∧BoxA wr w.heap.size 127 #[.slice pA pn pc,.slice rA rn rc,.slice tA tn tc,.slice sA sn sc,.int .i64 kn,.slice TA Tn Tc,.slice DA Dn Dc]∧BoxA wr (w.heap.size+1) 60 #[.int .i64 pap,.int .i64 leaf]) (fun _ i _=>rn - (intOf i).toNat)
 case atStart=>exact ⟨0,by omega,rfl,rfl,by exact bel_,(BoxA.new _ _ _).alloc _,by have h:=BoxA.new (w.alloc (.cells #[.slice pA pn pc,.slice rA rn rc,.slice tA tn tc,.slice sA sn sc,.int .i64 kn,.slice TA Tn Tc,.slice DA Dn Dc] 127)) 60 #[.int .i64 pap,.int .i64 leaf];simpa using h⟩
 case round =>
  obtain ⟨k,hk,rfl,rfl,hB,hbx,hbf⟩:=hrel
  have hs0:=hB.size
  have kx:=hbx.cell
  have zx:=hbx.lt
  have kf:=hbf.cell
  have zf:=hbf.lt
  by_cases hlt:k<rn
  ·obtain ⟨b,o,r,rfl,hb,hx,A1,n1,c1,⟨h0,h1,h2,h3,h4,h5,h6⟩,hi1,hc1,hm1⟩:=(Sq.ext HR.out abR hB (Nat.le_refl _)).at_ hlt
   have HX:=Lib.hid hx
   have hbr:b<wr.heap.size:=by omega
   have HS:=Lib.hid (lastK_succ kn pap leaf day l.rc k)
   have hrows:∀ (W:World) (j:Nat) (r2:Rcp),Below w.heap.size w W→l.rc[j]?=some r2→W.cell? ⟨b,o+j*7+4,none⟩=some (.int .i64 r2.day):=fun W j r2 hW hj=>by
    obtain ⟨b',o',y,e',_,hy,_,_,_,⟨_,_,_,_,g4,_,_⟩,_⟩:=(Sq.ext HR.out abR hW (Nat.le_refl _)).at_ (k:=j) (by rw [← HR.out.len];exact (List.getElem?_eq_some_iff.1 hj).1)
    obtain ⟨rfl,rfl⟩:b=b'∧o=o':=by simpa using e'
    obtain rfl:r2=y:=Option.some.inj (hj.symm.trans hy)
    exact g4
   have HW:=Lib.hid hrows
   clear hx hi1 hrows
   obtain ⟨s,hs⟩:∃ s,lastK kn pap leaf day l.rc k=s:=⟨_,rfl⟩
   have HSs:=Lib.hid hs
   rw [hs] at HS
   rw [hs]
   clear hs
   have hstep:∀ s':Option (Nat × Int),lastStep kn pap leaf day l.rc s k=s'→lastK kn pap leaf day l.rc (k+1)=s':=fun s' h=>HS.out.trans h
   have HST:=Lib.hid hstep
   clear hstep
   cases hq:(countsB r.kn r.un kn && isOfB pap leaf r) with
   | false =>
     have HF:=Lib.hid (HST.out s (by simp only [lastStep,HX.out,hq];rfl))
     have hcall:=HI.out wr k r false hB HX.out hq
     clear hq
     go_wp2_with (go_at_call 169;refine hcall.mono ?_;rintro e w1 ⟨rfl,hb1⟩)
     go_roundw
     case rel=>exact ⟨k+1,by omega,by go_num,by rw [HF.out] <;> rfl,Below.then_ hB hb1,hbx.ext hb1,hbf.ext hb1⟩
     case measure=>exact ms_
   | true =>
     have hcall:=HI.out wr k r true hB HX.out hq
     by_cases hd:r.day≤day
     ·cases s with
      | none =>
        have HF:=Lib.hid (HST.out (some (k,r.day)) (by simp only [lastStep,HX.out,hq];simp [hd,newer]))
        clear hq
        simp only [lastI]
        go_wp2_with (go_at_call 169;refine hcall.mono ?_;rintro e w1 ⟨rfl,hb1⟩)
        go_roundw
        case rel=>exact ⟨k+1,by omega,by go_num,by rw [HF.out] <;> rfl,Below.then_ hB hb1,hbx.ext hb1,hbf.ext hb1⟩
        case measure=>exact ms_
      | some p =>
        obtain ⟨j,d⟩:=p
        obtain ⟨hjk,r2,hj2,hd2⟩:=lastK_at HSs.out
        subst hd2
        simp only [lastI]
        have hmx:max (j:Int) 0=(j:Int):=by omega
        by_cases hlt2:r2.day<r.day
        ·have HF:=Lib.hid (HST.out (some (k,r.day)) (by simp only [lastStep,HX.out,hq];simp [hd,hlt2,newer]))
         clear hq
         go_wp2_with (go_at_call 169;refine hcall.mono ?_;rintro e w1 ⟨rfl,hb1⟩;have g4:=HW.out w1 j r2 (Below.then_ hB hb1) hj2;have kx1:=(hbx.ext hb1).cell;have zb1:=Nat.lt_of_lt_of_le hbr hb1.size;have zx1:=(hbx.ext hb1).lt)
         go_roundw
         case rel=>exact ⟨k+1,by omega,by go_num,by rw [HF.out] <;> rfl,Below.then_ hB hb1,hbx.ext hb1,hbf.ext hb1⟩
         case measure=>exact ms_
        ·have HF:=Lib.hid (HST.out (some (j,r2.day)) (by simp only [lastStep,HX.out,hq];simp [hd,hlt2,newer]))
         clear hq
         go_wp2_with (go_at_call 169;refine hcall.mono ?_;rintro e w1 ⟨rfl,hb1⟩;have g4:=HW.out w1 j r2 (Below.then_ hB hb1) hj2;have kx1:=(hbx.ext hb1).cell;have zb1:=Nat.lt_of_lt_of_le hbr hb1.size;have zx1:=(hbx.ext hb1).lt)
         go_roundw
         case rel=>exact ⟨k+1,by omega,by go_num,by rw [HF.out] <;> rfl,Below.then_ hB hb1,hbx.ext hb1,hbf.ext hb1⟩
         case measure=>exact ms_
     ·have HF:=Lib.hid (HST.out s (by simp only [lastStep,HX.out,hq];simp [hd]))
      clear hq
      go_wp2_with (go_at_call 169;refine hcall.mono ?_;rintro e w1 ⟨rfl,hb1⟩)
      go_roundw
      case rel=>exact ⟨k+1,by omega,by go_num,by rw [HF.out] <;> rfl,Below.then_ hB hb1,hbx.ext hb1,hbf.ext hb1⟩
      case measure=>exact ms_
  ·obtain rfl:k=rn:=by omega
   go_wp2
   go_ret
   exact ⟨rfl,hB⟩
end Go.Proofs.YtoiompoapikkbaaGreat
/- Layer 2: where a leaf stays: the program's and the reference's, plain. -/
namespace Go.Proofs.YtoiompoapikkbaaGreat
open Go.RowKit Go.Maps
def lastV (M:List ((Int × Int) × Nat)) (R:List Rcp) (leaf:Int):Option (Nat × Int)→Int × Int × Int
 | none=>(0,-1,-1)
 | some p=>match R[p.1]? with
   | none=>(0,-1,-1)
   | some r=>(r.bor,backI M r.src leaf,p.2)
theorem stay_last (R:List Rcp) (kn pap leaf day:Int) (M:List ((Int × Int) × Nat)) (h0:∀ r∈R,0≤r.day):∀ k,stayL M leaf day (((R.take k).filter fun r=>countsB r.kn r.un kn).filter (isOfB pap leaf))=lastV M R leaf (lastK kn pap leaf day R k)
 | 0=>by simp [stayL,lastK,lastV]
 | k+1=>by
   have ih:=stay_last R kn pap leaf day M h0 k
   rw [lastK_succ,lastStep]
   cases hr:R[k]? with
   | none =>
     have hl:R.length≤k:=by simpa using hr
     have e:R.take (k+1)=R.take k:=by rw [List.take_of_length_le (by omega),List.take_of_length_le hl]
     rw [e]
     exact ih
   | some r =>
     rw [take_snoc_some hr,List.filter_append,List.filter_append]
     dsimp only
     have hd0:=h0 r (List.mem_of_getElem? hr)
     cases hc:countsB r.kn r.un kn with
     | false=>simpa [hc] using ih
     | true =>
       cases ho:isOfB pap leaf r with
       | false=>simpa [hc,ho] using ih
       | true =>
         have e:(([r].filter fun r=>countsB r.kn r.un kn).filter (isOfB pap leaf))=[r]:=by simp [hc,ho]
         rw [e,stayL_snoc,ih]
         cases hL:lastK kn pap leaf day R k with
         | none =>
           by_cases h1:r.day≤day
           ·rw [if_pos (by simp [h1,newer])]
            have h2:¬ (day<r.day∨r.day≤((0:Int),(-1:Int),(-1:Int)).2.2):=by dsimp only;omega
            show stayStep M leaf day (0,-1,-1) r=_
            rw [stayStep,if_neg h2]
            simp [lastV,hr]
           ·rw [if_neg (by simp [h1])]
            have h2:day<r.day∨r.day≤((0:Int),(-1:Int),(-1:Int)).2.2:=by dsimp only;omega
            show stayStep M leaf day (0,-1,-1) r=_
            rw [stayStep,if_pos h2]
            rfl
         | some p =>
           obtain ⟨j,d⟩:=p
           obtain ⟨_,r2,hr2,hd2⟩:=lastK_at hL
           have e2:lastV M R leaf (some (j,d))=(r2.bor,backI M r2.src leaf,d):=by simp [lastV,hr2]
           rw [e2]
           by_cases h1:r.day≤day∧d<r.day
           ·rw [if_pos (by simp [h1.1,h1.2,newer])]
            have h2:¬ (day<r.day∨r.day≤(r2.bor,backI M r2.src leaf,d).2.2):=by dsimp only;omega
            rw [stayStep,if_neg h2]
            simp [lastV,hr]
           ·rw [if_neg (by simp only [newer,Bool.true_and,Bool.and_eq_true,decide_eq_true_eq];exact h1)]
            have h2:day<r.day∨r.day≤(r2.bor,backI M r2.src leaf,d).2.2:=by dsimp only;omega
            rw [stayStep,if_pos h2,e2]
theorem stayF_last (l:Led) (kn pap leaf day:Int) (M:List ((Int × Int) × Nat)) (h0:∀ r∈l.rc,0≤r.day):stayF M (cntR l kn) pap leaf day=lastV M l.rc leaf (lastK kn pap leaf day l.rc l.rc.length):=by
 have h:=stay_last l.rc kn pap leaf day M h0 l.rc.length
 rw [List.take_of_length_le (Nat.le_refl _)] at h
 exact h
theorem back_rt (l:Led) (kn src leaf:Int):backI (opnL l kn).M src leaf=ixI (rtIx (opnL l kn).T l.rt src leaf):=by
 rw [backI,opn_rt]
 cases rtIx (opnL l kn).T l.rt src leaf <;> rfl
end Go.Proofs.YtoiompoapikkbaaGreat
/- Layer 2: days narrowed by sights: the program's and the reference's, plain. -/
namespace Go.Proofs.YtoiompoapikkbaaGreat
open Go.RowKit Go.Maps
def refN (l:Led) (T:List Bool) (kn:Int) (D:List (Int × Int)) (s:Sgt):List (Int × Int) × Bool:=match lastK kn s.pap s.leaf s.day l.rc l.rc.length with
 | none=>(D,decide (s.per=0))
 | some p=>match l.rc[p.1]? with
   | none=>(D,decide (s.per=0))
   | some x=>match rtIx T l.rt x.src s.leaf with
     | none=>(D,decide (s.per=x.bor))
     | some k=>if s.per=x.bor then (D.set k (max (D.getD k (0,0)).1 (s.day+1),(D.getD k (0,0)).2),decide (max (D.getD k (0,0)).1 (s.day+1)≤(D.getD k (0,0)).2))
       else if s.per=0 then (D.set k ((D.getD k (0,0)).1,min (D.getD k (0,0)).2 s.day),decide ((D.getD k (0,0)).1≤min (D.getD k (0,0)).2 s.day))
       else (D,false)
def refL (l:Led) (T:List Bool) (kn:Int):List Sgt→List (Int × Int)→List (Int × Int) × Bool
 | [],D=>(D,true)
 | s :: ss,D=>((refL l T kn ss (refN l T kn D s).1).1,(refN l T kn D s).2 && (refL l T kn ss (refN l T kn D s).1).2)
theorem nar_ref (l:Led) (kn:Int) (h0:∀ r∈l.rc,0≤r.day) (hb:∀ r∈l.rc,r.bor≠0) (D:List (Int × Int)) (s:Sgt):narS (staySg (opnL l kn).M (cntR l kn) s) D s.per s.day=if (refN l (opnL l kn).T kn D s).2=true then some (refN l (opnL l kn).T kn D s).1 else none:=by
 rw [staySg,stayF_last l kn _ _ _ _ h0,refN]
 cases hL:lastK kn s.pap s.leaf s.day l.rc l.rc.length with
 | none =>
   simp only [lastV,narS]
   by_cases hp:s.per=0
   ·simp [hp]
   ·simp [hp]
 | some p =>
   obtain ⟨j,d⟩:=p
   obtain ⟨_,x,hx,_⟩:=lastK_at hL
   have hbx:=hb x (List.mem_of_getElem? hx)
   simp only [lastV,hx,back_rt]
   cases hk:rtIx (opnL l kn).T l.rt x.src s.leaf with
   | none =>
     simp only [ixI,narS]
     by_cases hp:s.per=x.bor
     ·simp [hp]
     ·simp [hp]
   | some k =>
     have h1:¬ ((k:Int)<0):=by omega
     simp only [ixI,narS,h1,or_false,Int.toNat_natCast]
     by_cases hp:s.per=x.bor
     ·have hn0:s.per≠0:=by rw [hp];exact hbx
      simp only [hp,ne_eq,not_true_eq_false,false_and,if_false,if_true,narD,hbx,decide_eq_true_eq]
      split <;> split <;> first | rfl | omega
     ·by_cases h2:s.per=0
      ·have h3:¬ ((0:Int)=x.bor):=fun h=>hbx h.symm
       simp only [h2,ne_eq,h3,not_false_eq_true,not_true_eq_false,and_false,if_false,if_true,narD,decide_eq_true_eq]
       split <;> split <;> first | rfl | omega
      ·simp [hp,h2]
theorem nar_all (l:Led) (kn:Int) (h0:∀ r∈l.rc,0≤r.day) (hb:∀ r∈l.rc,r.bor≠0):∀ (ss:List Sgt) (D:List (Int × Int)),narL (opnL l kn).M (cntR l kn) ss D=if (refL l (opnL l kn).T kn ss D).2=true then some (refL l (opnL l kn).T kn ss D).1 else none
 | [],D=>rfl
 | s :: ss,D=>by
   rw [narL,nar_ref l kn h0 hb,refL]
   cases h:(refN l (opnL l kn).T kn D s).2 with
   | false=>rfl
   | true=>exact nar_all l kn h0 hb ss _
end Go.Proofs.YtoiompoapikkbaaGreat
/- slices.Equal at numbers; who may be, as a list; view.same. -/
namespace Go.Proofs.YtoiompoapikkbaaGreat
open Go.RowKit
attribute [local go_sem] Oper.semAt_some
theorem take_eq_succ {xs ys:List Int} {k:Nat} {x y:Int} (hx:xs[k]?=some x) (hy:ys[k]?=some y) (h:xs.take k=ys.take k):xs.take (k+1)=ys.take (k+1)↔x=y:=by
 rw [take_snoc_some hx,take_snoc_some hy,h]
 simp
set_option maxHeartbeats 1000000 in
theorem l_equal (xs ys:List Int) (v:Bool) (A B:Option Addr) (n c m d:Nat) (w:World) (hn:n≤1000000) (hm:m≤1000000) (hx:Is w w.heap.size A n xs) (hy:Is w w.heap.size B m ys) (hv:decide (xs=ys)=v) :
 Calls Tryz.prog 141 #[.slice A n c,.slice B m d] w fun e w'=>e=.returned (.bool v)∧Below w.heap.size w w':=by
 have HX:=Lib.hid hx
 have HY:=Lib.hid hy
 have HLX:=Lib.hid hx.len
 have HLY:=Lib.hid hy.len
 have HV:=Lib.hid hv
 clear hx hy hv
 by_cases hnm:n=m
 ·subst hnm
  go_enter Tryz.func141,Tryz.ntmps141
  go_wp2
  go_loopw [13] (fun i wr=>∃ k:Nat,k≤n∧i=.int .i64 k∧xs.take k=ys.take k∧Below w.heap.size w wr) (fun i _=>n - (intOf i).toNat)
  case atStart=>exact ⟨0,by omega,rfl,by simp,Below.refl _ _⟩
  case round =>
   obtain ⟨k,hk,rfl,hpre,hB⟩:=hrel
   have HP:=Lib.hid hpre
   clear hpre
   have hs0:w.heap.size≤wr.heap.size:=hB.size
   by_cases hlt:k<n
   ·obtain ⟨b,o,x,rfl,hb,hxk,hcx⟩:=(HX.out.ext hB (Nat.le_refl _)).at_ hlt
    obtain ⟨b',o',y,rfl,hb',hyk,hcy⟩:=(HY.out.ext hB (Nat.le_refl _)).at_ hlt
    have HXK:=Lib.hid hxk
    have HYK:=Lib.hid hyk
    clear hxk hyk
    have hbr:b<wr.heap.size:=by omega
    have hbr':b'<wr.heap.size:=by omega
    have HS:=Lib.hid (take_eq_succ HXK.out HYK.out HP.out)
    by_cases hxy:x=y
    ·have hb1:(x != y)=false:=by simp [hxy]
     have HXY:=Lib.hid hxy
     clear hxy
     go_wp2_with fail
     (refine rg_ ?_;(repeat (go_big_quiet_step (fail)));refine qn_ fun w1 hb1 hc1 hf1=>?_)
     go_wp2_with fail
     go_roundw
     case rel=>exact ⟨k+1,by omega,by go_num,HS.out.2 HXY.out,Below.then_ hB hb1⟩
     case measure=>exact ms_
    ·have hb1:(x != y)=true:=by simp [hxy]
     have HXY:=Lib.hid hxy
     clear hxy
     go_wp2_with fail
     (refine rg_ ?_;(repeat (go_big_quiet_step (fail)));refine qn_ fun w1 hb1 hc1 hf1=>?_)
     go_wp2_with fail
     go_ret
     refine ⟨ret_bool ?_,Below.then_ hB hb1⟩
     rw [← HV.out]
     symm
     apply decide_eq_false
     intro e
     exact HXY.out (HS.out.1 (by rw [e]))
   ·have hkn:k=n:=by omega
    have HKn:=Lib.hid hkn
    clear hkn
    go_wp2
    go_ret
    refine ⟨ret_bool ?_,hB⟩
    rw [← HV.out]
    symm
    apply decide_eq_true
    have h1:=HP.out
    rwa [List.take_of_length_le (by rw [HLX.out,HKn.out];exact Nat.le_refl _),List.take_of_length_le (by rw [HLY.out,HKn.out];exact Nat.le_refl _)] at h1
 ·have h1:((n:Int) != (m:Int))=true:=by simp;omega
  go_enter Tryz.func141,Tryz.ntmps141
  go_wp2
  go_ret
  refine ⟨ret_bool ?_,Below.refl _ _⟩
  rw [← HV.out]
  symm
  apply decide_eq_false
  intro e
  exact hnm (by rw [← HLX.out,← HLY.out,e])
end Go.Proofs.YtoiompoapikkbaaGreat
/- view.same: whether two views tell the same of a lock. -/
namespace Go.Proofs.YtoiompoapikkbaaGreat
open Go.RowKit
attribute [local go_sem] Oper.semAt_some
end Go.Proofs.YtoiompoapikkbaaGreat
/- Structs of numbers that come in by value. -/
namespace Go.Proofs.YtoiompoapikkbaaGreat
open Go.ChangeShapes Go.WideShapes Go.ChangeAt Go.RowKit Go.Deep Go.Joins
section
variable {H:Type} {enc:TypeId × Value→H} {w:World} {base:Nat} {spare:Nat→Bool} {held:Bool} {r:Reach} {b0:Nat} {v:Value} {d:DataW H} {p:List MemPlace}
end
end Go.Proofs.YtoiompoapikkbaaGreat
/- Layer 2: CheckTrue, Clash. -/
namespace Go.Proofs.YtoiompoapikkbaaGreat
open Go.RowKit Go.Maps
def trueE (l:Led) (kn:Int) (days:List Int):Int:=if days.length=l.rt.length∧setE l kn=0 then errI (trueD days (setP l kn)) 29 else 29
theorem p_checkTrueN (l:Led) (kn:Int) (days:List Int) (D:Option Addr) (m c0:Nat) (a:Acc) (v:Int) (w:World) (hl:LedOk l) (h:OpnA w a l kn) (hm:m≤9223372036854775807) (hdy:Is w w.heap.size D m days) (hv:trueE l kn days=v) (h0:¬ v=0) :
 Calls Tryz.prog 133 #[.pointer (some ⟨w.heap.size,0,none⟩),.slice D m c0] (w.alloc (.cells (accC a) 119)) fun e w'=>e=.returned (.int .i64 v)∧Below w.heap.size w w':=by
 have hb:Below w.heap.size w (w.alloc (.cells (accC a) 119)):=by exact bel_
 have hc:=p_checkTrue (opnL l kn).M (cntR l kn) (opnL l kn).P (cntS l kn) days a w.heap.size D m c0 _ (h.acc.now hb) (cnt_sgs hl kn) (by have:=h.sn;omega) (h.sg.now abS hb) (BoxA.new w 119 (accC a)) hm (Is.ext hdy hb (Nat.le_refl _))
 refine hc.mono fun e w' hr=>?_
 subst hv
 unfold trueE at h0 ⊢
 by_cases hlen:days.length=l.rt.length
 ·have h2:=hr.2 (hlen.trans h.pn.symm)
  have hse:setE l kn=match dblR (opnL l kn).M (opnL l kn).P (cntR l kn),narL (opnL l kn).M (cntR l kn) (cntS l kn) (opnL l kn).P with
   | some _,_=>25
   | none,none=>27
   | none,some _=>0:=rfl
  cases hd:dblR (opnL l kn).M (opnL l kn).P (cntR l kn) with
  | some p =>
    rw [hd] at h2 hse
    rw [if_neg (by rw [hse];simp)]
    exact ⟨h2.1,Below.then_ hb h2.2⟩
  | none =>
    cases ho:narL (opnL l kn).M (cntR l kn) (cntS l kn) (opnL l kn).P with
    | none =>
      rw [hd,ho] at h2 hse
      rw [if_neg (by rw [hse];simp)]
      exact ⟨h2.1,Below.then_ hb h2.2⟩
    | some P' =>
      rw [hd,ho] at h2 hse
      have hsp:setP l kn=P':=by rw [setP,ho];rfl
      rw [if_pos ⟨hlen,hse⟩,hsp]
      obtain ⟨h3,ws,⟨_,w1,A,c,hb1,_,_,hws⟩,hb2⟩:=h2
      refine ⟨h3,?_⟩
      have hB:=(Below.then_ hb hb1).setCell (show w.heap.size≤(⟨w.heap.size,9,none⟩:Addr).block from Nat.le_refl _) (.slice A a.Pn c)
      rw [← hws] at hB
      exact Below.then_ hB hb2
 ·have h1:=hr.1 (fun e=>hlen (e.trans h.pn))
  rw [if_neg (fun h=>hlen h.1)]
  exact ⟨h1.1,Below.then_ hb h1.2⟩
theorem p_checkTrue0 (l:Led) (kn:Int) (days:List Int) (D:Option Addr) (m c0:Nat) (a:Acc) (w:World) (hl:LedOk l) (h:OpnA w a l kn) (hm:m≤9223372036854775807) (hdy:Is w w.heap.size D m days) (hv:trueE l kn days=0) :
 Calls Tryz.prog 133 #[.pointer (some ⟨w.heap.size,0,none⟩),.slice D m c0] (w.alloc (.cells (accC a) 119)) fun e w'=>∃ A c,e=.returned (.int .i64 0)∧Below w.heap.size w w'∧BoxA w' w.heap.size 119 (accC { a with PA:=A,Pc:=c }) ∧
  AccR w' { a with PA:=A,Pc:=c } (opnL l kn).M (cntR l kn) (setP l kn):=by
 have hb:Below w.heap.size w (w.alloc (.cells (accC a) 119)):=by exact bel_
 have hbox:=BoxA.new w 119 (accC a)
 have hc:=p_checkTrue (opnL l kn).M (cntR l kn) (opnL l kn).P (cntS l kn) days a w.heap.size D m c0 _ (h.acc.now hb) (cnt_sgs hl kn) (by have:=h.sn;omega) (h.sg.now abS hb) hbox hm (Is.ext hdy hb (Nat.le_refl _))
 refine hc.mono fun e w' hr=>?_
 unfold trueE at hv
 split at hv
 ·rename_i hq
  have h2:=hr.2 (hq.1.trans h.pn.symm)
  have hse:=hq.2
  unfold setE at hse
  cases hd:dblR (opnL l kn).M (opnL l kn).P (cntR l kn) with
  | some p=>rw [hd] at hse;cases hse
  | none =>
    cases ho:narL (opnL l kn).M (cntR l kn) (cntS l kn) (opnL l kn).P with
    | none=>rw [hd,ho] at hse;cases hse
    | some P' =>
      rw [hd,ho] at h2
      have hsp:setP l kn=P':=by rw [setP,ho];rfl
      rw [hsp] at hv ⊢
      obtain ⟨h3,ws,⟨_,w1,A,c,hb1,ho1,hl1,hws⟩,hb2⟩:=h2
      rw [hv] at h3
      have hB:Below w.heap.size w w1:=Below.then_ hb hb1
      have hB2:=hB.setCell (show w.heap.size≤(⟨w.heap.size,9,none⟩:Addr).block from Nat.le_refl _) (.slice A a.Pn c)
      have ho2:(w1.setCell ⟨w.heap.size,9,none⟩ (.slice A a.Pn c)).ownsRow (w.alloc (.cells (accC a) 119)).heap.size 143 2 (.slice A a.Pn c) a.Pn (folCells P'):=own_keep ho1 fun b hb9=>Below.heap_setCell _ _ _ _ (fun e=>by
       have:=own_le ho1 hb9
       simp only [World.size_alloc] at this
       have e:b=w.heap.size:=e
       omega)
      have hbx:=(hbox.ext hb1).set 9 (.slice A a.Pn c)
      have hac:=h.acc.settled hB2 ho2 hl1
      rw [← hws] at hB2 hbx hac
      exact ⟨A,c,h3,Below.then_ hB2 hb2,hbx.ext hb2,hac.now hb2⟩
 ·cases hv
def checkTrueX (l:Led) (kn:Int) (days:List Int):Int:=if preE l [kn]=0 then trueE l kn days else preE l [kn]
set_option maxRecDepth 10000 in
set_option maxHeartbeats 4000000 in
theorem p_CheckTrue (l:Led) (x:Lsl) (kn:Int) (days:List Int) (D:Option Addr) (m c0:Nat) (w:World) (hf:x.fit) (hd:LedIn w w.heap.size x l) (hm:m≤9223372036854775807) (hdy:Is w w.heap.size D m days) :
 Calls Tryz.prog 51 #[.agg #[.slice x.pA x.pn x.pc,.slice x.rA x.rn x.rc,.slice x.tA x.tn x.tc,.slice x.sA x.sn x.sc],.int .i64 kn,.slice D m c0] w (fun e w'=>e=.returned (.int .i64 (checkTrueX l kn days))∧Below w.heap.size w w'):=by
 obtain ⟨pA,pn,pc,rA,rn,rc,tA,tn,tc,sA,sn,sc⟩:=x
 have HD:=Lib.hid hd
 have hml:maxLen≤9223372036854775807:=by decide
 have hpn:pn≤9223372036854775807:=by have:=hf.p;dsimp only at this;omega
 have hrn:rn≤9223372036854775807:=by have:=hf.r;dsimp only at this;omega
 have htn:tn≤9223372036854775807:=by have:=hf.t;dsimp only at this;omega
 have hsn:sn≤9223372036854775807:=by have:=hf.s;dsimp only at this;omega
 clear hd hf hml
 obtain ⟨v,hv⟩:∃ v,preE l [kn]=v:=⟨_,rfl⟩
 have HV:Hid (orL [errI (ledB l) 24,errI (daysOk [kn]) 6]=v):=by show _=_;exact hv
 have HDY:=Lib.hid hdy
 clear hdy
 by_cases hv0:v=0
 ·subst hv0
  have HLO:=Lib.hid (led_ok (pre_zero hv).1)
  have hres:checkTrueX l kn days=trueE l kn days:=by rw [checkTrueX,if_pos hv]
  rw [hres]
  obtain ⟨ve,hve⟩:∃ ve,trueE l kn days=ve:=⟨_,rfl⟩
  have HTE0:=Lib.hid hve
  rw [hve]
  clear hres hv
  by_cases he:ve=0
  ·subst he
   have HTE:=HTE0
   clear hve
   go_enter Tryz.func51,Tryz.ntmps51
   go_wp2_with (first | (go_at_call 18;refine (p_Check l ⟨pA,pn,pc,rA,rn,rc,tA,tn,tc,sA,sn,sc⟩ _ hpn hrn htn hsn (HD.out.now (by exact bel_))).mono ?_;rintro e w1 ⟨rfl,hb1⟩;have HB1:Below w.heap.size w w1:=Below.then_ (by exact bel_) hb1;have hs1:=HB1.size;have bL0:=BoxA.new w 27 #[.slice pA pn pc,.slice rA rn rc,.slice tA tn tc,.slice sA sn sc];have bL1:=bL0.ext hb1;have kL1:=bL1.cell;have zL1:=bL1.lt;clear hb1) | (go_at_call 100;refine (p_checkDays [kn] _ 1 1 _ (by decide) (Rd.new _ #[.int .i64 kn] _ 1 1 _ (by simp) rfl)).mono ?_;rintro e w2 ⟨rfl,hb2⟩;have HB2:Below w.heap.size w w2:=Below.then_ (by exact bel_) hb2;have hs2:=HB2.size;have bL2:=(bL1.alloc _).ext hb2;have kL2:=bL2.cell;have zL2:=bL2.lt;clear kL1 zL1;clear hb2) | (go_at_call 99;refine (p_first [errI (ledB l) 24,errI (daysOk [kn]) 6] 0 _ 2 2 _ (by decide) (Rd.new _ #[.int .i64 (errI (ledB l) 24),.int .i64 (errI (daysOk [kn]) 6)] _ 1 2 _ (by simp) rfl) HV.out).mono ?_;rintro e w1 ⟨rfl,rfl⟩) | (go_at_call 101;refine (p_openA l ⟨pA,pn,pc,rA,rn,rc,tA,tn,tc,sA,sn,sc⟩ kn _ HLO.out (HD.out.now (by exact bel_))).mono ?_;rintro e w5 ⟨RA,Rn,Rc,SA,Sn,Sc,bm,TA,Tn,Tc,PA,Pn,Pc,rfl,hb5,hO⟩;have HB5:Below w.heap.size w w5:=Below.then_ (by exact bel_) hb5;have hs5:=HB5.size;have HO:=Lib.hid hO;have bL5:=(bL2.alloc _).ext hb5;have kL5:=bL5.cell;have zL5:=bL5.lt;clear kL2 zL2;clear hO hb5) | (go_at_call 133;refine (p_checkTrue0 l kn days D m c0 ⟨⟨pA,pn,pc,rA,rn,rc,tA,tn,tc,sA,sn,sc⟩,kn,RA,Rn,Rc,SA,Sn,Sc,bm,TA,Tn,Tc,PA,Pn,Pc⟩ w5 HLO.out HO.out hm (HDY.out.now HB5) HTE.out).mono ?_;rintro e w6 ⟨PA2,Pc2,rfl,hb6,hbx6,hac6⟩;have HB6:Below w.heap.size w w6:=Below.then_ HB5 hb6;have hs6:=HB6.size))
   go_ret
   exact ⟨rfl,HB6⟩
  ·have HTE:=HTE0
   have HVE:=Lib.hid he
   clear hve he
   go_enter Tryz.func51,Tryz.ntmps51
   go_wp2_with (first | (go_at_call 18;refine (p_Check l ⟨pA,pn,pc,rA,rn,rc,tA,tn,tc,sA,sn,sc⟩ _ hpn hrn htn hsn (HD.out.now (by exact bel_))).mono ?_;rintro e w1 ⟨rfl,hb1⟩;have HB1:Below w.heap.size w w1:=Below.then_ (by exact bel_) hb1;have hs1:=HB1.size;have bL0:=BoxA.new w 27 #[.slice pA pn pc,.slice rA rn rc,.slice tA tn tc,.slice sA sn sc];have bL1:=bL0.ext hb1;have kL1:=bL1.cell;have zL1:=bL1.lt;clear hb1) | (go_at_call 100;refine (p_checkDays [kn] _ 1 1 _ (by decide) (Rd.new _ #[.int .i64 kn] _ 1 1 _ (by simp) rfl)).mono ?_;rintro e w2 ⟨rfl,hb2⟩;have HB2:Below w.heap.size w w2:=Below.then_ (by exact bel_) hb2;have hs2:=HB2.size;have bL2:=(bL1.alloc _).ext hb2;have kL2:=bL2.cell;have zL2:=bL2.lt;clear kL1 zL1;clear hb2) | (go_at_call 99;refine (p_first [errI (ledB l) 24,errI (daysOk [kn]) 6] 0 _ 2 2 _ (by decide) (Rd.new _ #[.int .i64 (errI (ledB l) 24),.int .i64 (errI (daysOk [kn]) 6)] _ 1 2 _ (by simp) rfl) HV.out).mono ?_;rintro e w1 ⟨rfl,rfl⟩) | (go_at_call 101;refine (p_openA l ⟨pA,pn,pc,rA,rn,rc,tA,tn,tc,sA,sn,sc⟩ kn _ HLO.out (HD.out.now (by exact bel_))).mono ?_;rintro e w5 ⟨RA,Rn,Rc,SA,Sn,Sc,bm,TA,Tn,Tc,PA,Pn,Pc,rfl,hb5,hO⟩;have HB5:Below w.heap.size w w5:=Below.then_ (by exact bel_) hb5;have hs5:=HB5.size;have HO:=Lib.hid hO;have bL5:=(bL2.alloc _).ext hb5;have kL5:=bL5.cell;have zL5:=bL5.lt;clear kL2 zL2;clear hO hb5) | (go_at_call 133;refine (p_checkTrueN l kn days D m c0 ⟨⟨pA,pn,pc,rA,rn,rc,tA,tn,tc,sA,sn,sc⟩,kn,RA,Rn,Rc,SA,Sn,Sc,bm,TA,Tn,Tc,PA,Pn,Pc⟩ ve w5 HLO.out HO.out hm (HDY.out.now HB5) HTE.out HVE.out).mono ?_;rintro e w6 ⟨rfl,hb6⟩;have HB6:Below w.heap.size w w6:=Below.then_ HB5 hb6;have hs6:=HB6.size))
   go_ret
   exact ⟨rfl,HB6⟩
 ·have hres:checkTrueX l kn days=v:=by rw [checkTrueX,if_neg (by rw [hv];exact hv0),hv]
  rw [hres]
  have hv1:(v != 0)=true:=by simpa using hv0
  clear hres hv hv0
  go_enter Tryz.func51,Tryz.ntmps51
  go_wp2_with (first | (go_at_call 18;refine (p_Check l ⟨pA,pn,pc,rA,rn,rc,tA,tn,tc,sA,sn,sc⟩ _ hpn hrn htn hsn (HD.out.now (by exact bel_))).mono ?_;rintro e w1 ⟨rfl,hb1⟩;have HB1:Below w.heap.size w w1:=Below.then_ (by exact bel_) hb1;have hs1:=HB1.size;have bL0:=BoxA.new w 27 #[.slice pA pn pc,.slice rA rn rc,.slice tA tn tc,.slice sA sn sc];have bL1:=bL0.ext hb1;have kL1:=bL1.cell;have zL1:=bL1.lt;clear hb1) | (go_at_call 100;refine (p_checkDays [kn] _ 1 1 _ (by decide) (Rd.new _ #[.int .i64 kn] _ 1 1 _ (by simp) rfl)).mono ?_;rintro e w2 ⟨rfl,hb2⟩;have HB2:Below w.heap.size w w2:=Below.then_ (by exact bel_) hb2;have hs2:=HB2.size;have bL2:=(bL1.alloc _).ext hb2;have kL2:=bL2.cell;have zL2:=bL2.lt;clear kL1 zL1;clear hb2) | (go_at_call 99;refine (p_first [errI (ledB l) 24,errI (daysOk [kn]) 6] v _ 2 2 _ (by decide) (Rd.new _ #[.int .i64 (errI (ledB l) 24),.int .i64 (errI (daysOk [kn]) 6)] _ 1 2 _ (by simp) rfl) HV.out).mono ?_;rintro e w1 ⟨rfl,rfl⟩))
  go_ret
  exact ⟨rfl,by exact bel_⟩
end Go.Proofs.YtoiompoapikkbaaGreat
