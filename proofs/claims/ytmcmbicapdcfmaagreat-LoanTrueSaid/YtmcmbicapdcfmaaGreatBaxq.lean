/- Layer 2 of the texts that LoanBack takes: Baxq. -/
import Derived.Test.YtmcmbicapdcfmaaGreatBawq
set_option linter.unusedVariables false
set_option linter.unusedSimpArgs false
set_option maxHeartbeats 16000000
namespace Go.Proofs.YtmcmbicapdcfmaaGreat
open Go.RowKit Go.Maps
theorem r_isOf_v (l:Led) (v:Vw) (i:Nat) (r:Rcp) (pap leaf:Int) (q:Bool) (w:World) (hn:v.x.rn≤1000000) (hd:LedIn w w.heap.size v.x l) (hr:l.rc[i]?=some r) (hq:(countsB r.kn r.un v.kn && isOfB pap leaf r)=q) :
 Calls Tryz.prog 143 #[vwV v,.int .i64 i,.agg #[.int .i64 pap,.int .i64 leaf]] w fun e w'=>e=.returned (.bool q)∧Below w.heap.size w w':=hq ▸ r_isOf l v i r pap leaf w hn hd hr
def newer (s:Option (Nat × Int)) (day:Int):Bool:=match s with
 | none=>true
 | some p=>decide (p.2<day)
def lastStep (kn pap leaf day:Int) (R:List Rcp) (s:Option (Nat × Int)) (i:Nat):Option (Nat × Int):=match R[i]? with
 | none=>s
 | some r=>if ((countsB r.kn r.un kn && isOfB pap leaf r) && (decide (r.day≤day) && newer s r.day))=true then some (i,r.day) else s
def lastK (kn pap leaf day:Int) (R:List Rcp) (k:Nat):Option (Nat × Int):=(List.range k).foldl (lastStep kn pap leaf day R) none
theorem lastK_succ (kn pap leaf day:Int) (R:List Rcp) (k:Nat):lastK kn pap leaf day R (k+1)=lastStep kn pap leaf day R (lastK kn pap leaf day R k) k:=by
 rw [lastK,List.range_succ,List.foldl_append];rfl
theorem lastK_at {kn pap leaf day:Int} {R:List Rcp}:∀ {k:Nat} {j:Nat} {d:Int},lastK kn pap leaf day R k=some (j,d)→j<k∧∃ r,R[j]?=some r∧r.day=d
 | 0,j,d,h=>by simp [lastK] at h
 | k+1,j,d,h=>by
   rw [lastK_succ,lastStep] at h
   cases hr:R[k]? with
   | none =>
     rw [hr] at h
     obtain ⟨h1,h2⟩:=lastK_at h
     exact ⟨by omega,h2⟩
   | some r =>
     rw [hr] at h
     simp only at h
     split at h
     ·simp only [Option.some.injEq,Prod.mk.injEq] at h
      obtain ⟨rfl,rfl⟩:=h
      exact ⟨by omega,r,hr,rfl⟩
     ·obtain ⟨h1,h2⟩:=lastK_at h
      exact ⟨by omega,h2⟩
def lastI:Option (Nat × Int)→Int
 | some p=>p.1
 | none=>-1
set_option maxRecDepth 10000 in
theorem r_last (l:Led) (v:Vw) (pap leaf day:Int) (w:World) (hn:v.x.rn≤1000000) (hd:LedIn w w.heap.size v.x l) :
 Calls Tryz.prog 104 #[vwV v,.agg #[.int .i64 pap,.int .i64 leaf],.int .i64 day] w fun e w'=>e=.returned (.int .i64 (lastI (lastK v.kn pap leaf day l.rc l.rc.length)))∧Below w.heap.size w w':=by
 obtain ⟨⟨pA,pn,pc,rA,rn,rc,tA,tn,tc,sA,sn,sc⟩,kn,TA,Tn,Tc,DA,Dn,Dc⟩:=v
 show Calls _ _ #[.agg #[.slice pA pn pc,.slice rA rn rc,.slice tA tn tc,.slice sA sn sc,.int .i64 kn,.slice TA Tn Tc,.slice DA Dn Dc],_,_] _ (fun e w'=>e=.returned (.int .i64 (lastI (lastK kn pap leaf day l.rc l.rc.length)))∧Below w.heap.size w w')
 have HI:Hid (∀ (W:World) (i:Nat) (r:Rcp) (q:Bool),Below w.heap.size w W→l.rc[i]?=some r→(countsB r.kn r.un kn && isOfB pap leaf r)=q→Calls Tryz.prog 143 #[.agg #[.slice pA pn pc,.slice rA rn rc,.slice tA tn tc,.slice sA sn sc,.int .i64 kn,.slice TA Tn Tc,.slice DA Dn Dc],.int .i64 i,.agg #[.int .i64 pap,.int .i64 leaf]] W fun e w'=>e=.returned (.bool q)∧Below W.heap.size W w'):=by
  show ∀ _,_
  exact fun W i r q hW h1 h2=>r_isOf_v l ⟨⟨pA,pn,pc,rA,rn,rc,tA,tn,tc,sA,sn,sc⟩,kn,TA,Tn,Tc,DA,Dn,Dc⟩ i r pap leaf q W hn (hd.now hW) h1 h2
 have HR:Hid (Rcs w w.heap.size rA rn l.rc):=by show Sq _ _ _ _ _ _ _;exact hd.r
 have hrn:rn≤1000000:=hn
 rw [HR.out.len]
 clear hd hn
 go_enter Tryz.func104,Tryz.ntmps104
 go_wp2
 go_loopw [7,8] (fun u i wr=>∃ k:Nat,k≤rn∧i=.int .i64 k∧u=.int .i64 (lastI (lastK kn pap leaf day l.rc k))∧Below w.heap.size w wr∧BoxA wr w.heap.size 89 #[.slice pA pn pc,.slice rA rn rc,.slice tA tn tc,.slice sA sn sc,.int .i64 kn,.slice TA Tn Tc,.slice DA Dn Dc]∧BoxA wr (w.heap.size+1) 48 #[.int .i64 pap,.int .i64 leaf]) (fun _ i _=>rn - (intOf i).toNat)
 case atStart=>exact ⟨0,by omega,rfl,rfl,by exact bel_,(BoxA.new _ _ _).alloc _,by have h:=BoxA.new (w.alloc (.cells #[.slice pA pn pc,.slice rA rn rc,.slice tA tn tc,.slice sA sn sc,.int .i64 kn,.slice TA Tn Tc,.slice DA Dn Dc] 89)) 48 #[.int .i64 pap,.int .i64 leaf];simpa using h⟩
 case round =>
  obtain ⟨k,hk,rfl,rfl,hB,hbx,hbf⟩:=hrel
  have hs0:=hB.size
  have kx:=hbx.cell
  have zx:=hbx.lt
  have kf:=hbf.cell
  have zf:=hbf.lt
  by_cases hlt:k<rn
  ·obtain ⟨b,o,r,rfl,hb,hx,A1,n1,c1,⟨h0,h1,h2,h3,h4,h5,h6⟩,hi1,hc1,hm1⟩:=(Sq.ext HR.out abR hB lr_).at_ hlt
   have HX:=hd_ hx
   have hbr:b<wr.heap.size:=by omega
   have HS:=hd_ (lastK_succ kn pap leaf day l.rc k)
   have hrows:∀ (W:World) (j:Nat) (r2:Rcp),Below w.heap.size w W→l.rc[j]?=some r2→W.cell? ⟨b,o+j*7+4,none⟩=some (.int .i64 r2.day):=fun W j r2 hW hj=>by
    obtain ⟨b',o',y,e',_,hy,_,_,_,⟨_,_,_,_,g4,_,_⟩,_⟩:=(Sq.ext HR.out abR hW lr_).at_ (k:=j) (by rw [← HR.out.len];exact (List.getElem?_eq_some_iff.1 hj).1)
    obtain ⟨rfl,rfl⟩:b=b'∧o=o':=by simpa using e'
    obtain rfl:r2=y:=Option.some.inj (hj.symm.trans hy)
    exact g4
   have HW:=hd_ hrows
   clear hx hi1 hrows
   obtain ⟨s,hs⟩:∃ s,lastK kn pap leaf day l.rc k=s:=⟨_,rfl⟩
   have HSs:=hd_ hs
   rw [hs] at HS
   rw [hs]
   clear hs
   have hstep:∀ s':Option (Nat × Int),lastStep kn pap leaf day l.rc s k=s'→lastK kn pap leaf day l.rc (k+1)=s':=fun s' h=>HS.out.trans h
   have HST:=hd_ hstep
   clear hstep
   cases hq:(countsB r.kn r.un kn && isOfB pap leaf r) with
   | false =>
     have HF:=hd_ (HST.out s (by simp only [lastStep,HX.out,hq];rfl))
     have hcall:=HI.out wr k r false hB HX.out hq
     clear hq
     go_wp2_with (go_at_call 143;refine hcall.mono ?_;rintro e w1 ⟨rfl,hb1⟩)
     go_roundw
     case rel=>exact ⟨k+1,by omega,by go_num,by rw [HF.out] <;> rfl,bt_ hB hb1,hbx.ext hb1,hbf.ext hb1⟩
     case measure=>exact ms_
   | true =>
     have hcall:=HI.out wr k r true hB HX.out hq
     by_cases hd:r.day≤day
     ·cases s with
      | none =>
        have HF:=hd_ (HST.out (some (k,r.day)) (by simp only [lastStep,HX.out,hq];simp [hd,newer]))
        clear hq
        simp only [lastI]
        go_wp2_with (go_at_call 143;refine hcall.mono ?_;rintro e w1 ⟨rfl,hb1⟩)
        go_roundw
        case rel=>exact ⟨k+1,by omega,by go_num,by rw [HF.out] <;> rfl,bt_ hB hb1,hbx.ext hb1,hbf.ext hb1⟩
        case measure=>exact ms_
      | some p =>
        obtain ⟨j,d⟩:=p
        obtain ⟨hjk,r2,hj2,hd2⟩:=lastK_at HSs.out
        subst hd2
        simp only [lastI]
        have hmx:max (j:Int) 0=(j:Int):=by omega
        by_cases hlt2:r2.day<r.day
        ·have HF:=hd_ (HST.out (some (k,r.day)) (by simp only [lastStep,HX.out,hq];simp [hd,hlt2,newer]))
         clear hq
         go_wp2_with (go_at_call 143;refine hcall.mono ?_;rintro e w1 ⟨rfl,hb1⟩;have g4:=HW.out w1 j r2 (bt_ hB hb1) hj2;have kx1:=(hbx.ext hb1).cell;have zb1:=Nat.lt_of_lt_of_le hbr hb1.size;have zx1:=(hbx.ext hb1).lt)
         go_roundw
         case rel=>exact ⟨k+1,by omega,by go_num,by rw [HF.out] <;> rfl,bt_ hB hb1,hbx.ext hb1,hbf.ext hb1⟩
         case measure=>exact ms_
        ·have HF:=hd_ (HST.out (some (j,r2.day)) (by simp only [lastStep,HX.out,hq];simp [hd,hlt2,newer]))
         clear hq
         go_wp2_with (go_at_call 143;refine hcall.mono ?_;rintro e w1 ⟨rfl,hb1⟩;have g4:=HW.out w1 j r2 (bt_ hB hb1) hj2;have kx1:=(hbx.ext hb1).cell;have zb1:=Nat.lt_of_lt_of_le hbr hb1.size;have zx1:=(hbx.ext hb1).lt)
         go_roundw
         case rel=>exact ⟨k+1,by omega,by go_num,by rw [HF.out] <;> rfl,bt_ hB hb1,hbx.ext hb1,hbf.ext hb1⟩
         case measure=>exact ms_
     ·have HF:=hd_ (HST.out s (by simp only [lastStep,HX.out,hq];simp [hd]))
      clear hq
      go_wp2_with (go_at_call 143;refine hcall.mono ?_;rintro e w1 ⟨rfl,hb1⟩)
      go_roundw
      case rel=>exact ⟨k+1,by omega,by go_num,by rw [HF.out] <;> rfl,bt_ hB hb1,hbx.ext hb1,hbf.ext hb1⟩
      case measure=>exact ms_
  ·obtain rfl:k=rn:=by omega
   go_wp2
   go_ret
   exact ⟨rfl,hB⟩
def RetLE (r:List Int × Int) (w:World) (e:Ending) (w':World):Prop:=∃ A n c,e=.returned (.tuple #[.slice A n c,.int .i64 r.2])∧Below w.heap.size w w'∧Is w' w'.heap.size A n r.1∧n≤c∧c≤maxLen
def doubleX (l:Led) (kn:Int):List Int × Int:=if preE l [kn]=0 then (match dblR (opnL l kn).M (opnL l kn).P (cntR l kn) with | none=>([],28) | some p=>([p.1.src,p.2.src],0)) else ([],preE l [kn])
theorem RetLE.err {v:Int} {w w':World} (hb:Below w.heap.size w w'):RetLE ([],v) w (.returned (.tuple #[.slice none 0 0,.int .i64 v])) w':=⟨none,0,0,rfl,hb,Rd.nil_,lr_,by decide⟩
set_option maxRecDepth 10000 in
theorem p_Double (l:Led) (x:Lsl) (kn:Int) (w:World) (hf:x.fit) (hd:LedIn w w.heap.size x l) :
 Calls Tryz.prog 28 #[.agg #[.slice x.pA x.pn x.pc,.slice x.rA x.rn x.rc,.slice x.tA x.tn x.tc,.slice x.sA x.sn x.sc],.int .i64 kn] w (RetLE (doubleX l kn) w):=by
 obtain ⟨pA,pn,pc,rA,rn,rc,tA,tn,tc,sA,sn,sc⟩:=x
 have HD:=hd_ hd
 have hml:maxLen≤9223372036854775807:=by decide
 have hpn:pn≤9223372036854775807:=by have:=hf.p;dsimp only at this;omega
 have hrn:rn≤9223372036854775807:=by have:=hf.r;dsimp only at this;omega
 have htn:tn≤9223372036854775807:=by have:=hf.t;dsimp only at this;omega
 have hsn:sn≤9223372036854775807:=by have:=hf.s;dsimp only at this;omega
 clear hd hf hml
 obtain ⟨v,hv⟩:∃ v,preE l [kn]=v:=⟨_,rfl⟩
 have HV:Hid (orL [errI (ledB l) 24,errI (daysOk [kn]) 6]=v):=by show _=_;exact hv
 by_cases hv0:v=0
 ·subst hv0
  have HLO:=hd_ (led_ok (pre_zero hv).1)
  cases hdr:dblR (opnL l kn).M (opnL l kn).P (cntR l kn) with
  | none =>
    have hres:doubleX l kn=([],28):=by rw [doubleX,if_pos hv,hdr]
    rw [hres]
    have HDR:=hd_ hdr
    clear hres hdr hv
    go_enter Tryz.func28,Tryz.ntmps28
    go_wp2_with (first | (go_at_call 12;refine (p_Check l ⟨pA,pn,pc,rA,rn,rc,tA,tn,tc,sA,sn,sc⟩ _ hpn hrn htn hsn (HD.out.now (by exact bel_))).mono ?_;rintro e w1 ⟨rfl,hb1⟩;have HB1:Below w.heap.size w w1:=bt_ (by exact bel_) hb1;have hs1:=HB1.size;have bL0:=BoxA.new w 32 #[.slice pA pn pc,.slice rA rn rc,.slice tA tn tc,.slice sA sn sc];have bL1:=bL0.ext hb1;have kL1:=bL1.cell;have zL1:=bL1.lt;clear hb1) | (go_at_call 63;refine (p_checkDays [kn] _ 1 1 _ (by decide) (Rd.new _ #[.int .i64 kn] _ 1 1 _ (by simp) rfl)).mono ?_;rintro e w2 ⟨rfl,hb2⟩;have HB2:Below w.heap.size w w2:=bt_ (by exact bel_) hb2;have hs2:=HB2.size;have bL2:=(bL1.alloc _).ext hb2;have kL2:=bL2.cell;have zL2:=bL2.lt;clear kL1 zL1;clear hb2) | (go_at_call 62;refine (p_first [errI (ledB l) 24,errI (daysOk [kn]) 6] 0 _ 2 2 _ (by decide) (Rd.new _ #[.int .i64 (errI (ledB l) 24),.int .i64 (errI (daysOk [kn]) 6)] _ 1 2 _ (by simp) rfl) HV.out).mono ?_;rintro e w1 ⟨rfl,rfl⟩) | (go_at_call 64;refine (p_openA l ⟨pA,pn,pc,rA,rn,rc,tA,tn,tc,sA,sn,sc⟩ kn _ HLO.out (HD.out.now (by exact bel_))).mono ?_;rintro e w5 ⟨RA,Rn,Rc,SA,Sn,Sc,bm,TA,Tn,Tc,PA,Pn,Pc,rfl,hb5,hO⟩;have HB5:Below w.heap.size w w5:=bt_ (by exact bel_) hb5;have hs5:=HB5.size;have HO:=hd_ hO;have bL5:=(bL2.alloc _).ext hb5;have kL5:=bL5.cell;have zL5:=bL5.lt;clear kL2 zL2;clear hO hb5) | (go_at_call 80;obtain ⟨xs,hxs,hx⟩:=rvs_of HO.out.acc.r;have hdb:=p_double (opnL l kn).M (cntR l kn) (opnL l kn).P xs ⟨⟨pA,pn,pc,rA,rn,rc,tA,tn,tc,sA,sn,sc⟩,kn,RA,Rn,Rc,SA,Sn,Sc,bm,TA,Tn,Tc,PA,Pn,Pc⟩ w5 HO.out.acc hx hxs;have hdm:=dbl2_map (opnL l kn).M (opnL l kn).P xs;rw [hxs,HDR.out] at hdm;have hdn:dbl2 (opnL l kn).M (opnL l kn).P xs=none:=Option.map_eq_none_iff.1 hdm;rw [hdn] at hdb;refine hdb.mono ?_;rintro e w6 ⟨hb6,rfl⟩;have HB6:Below w.heap.size w w6:=bt_ HB5 hb6;have hs6:=HB6.size))
    go_ret2
    exact RetLE.err (by exact bel_)
  | some q =>
    have hres:doubleX l kn=([q.1.src,q.2.src],0):=by rw [doubleX,if_pos hv,hdr]
    rw [hres]
    have HDR:=hd_ hdr
    clear hres hdr hv
    go_enter Tryz.func28,Tryz.ntmps28
    go_wp2_with (first | (go_at_call 12;refine (p_Check l ⟨pA,pn,pc,rA,rn,rc,tA,tn,tc,sA,sn,sc⟩ _ hpn hrn htn hsn (HD.out.now (by exact bel_))).mono ?_;rintro e w1 ⟨rfl,hb1⟩;have HB1:Below w.heap.size w w1:=bt_ (by exact bel_) hb1;have hs1:=HB1.size;have bL0:=BoxA.new w 32 #[.slice pA pn pc,.slice rA rn rc,.slice tA tn tc,.slice sA sn sc];have bL1:=bL0.ext hb1;have kL1:=bL1.cell;have zL1:=bL1.lt;clear hb1) | (go_at_call 63;refine (p_checkDays [kn] _ 1 1 _ (by decide) (Rd.new _ #[.int .i64 kn] _ 1 1 _ (by simp) rfl)).mono ?_;rintro e w2 ⟨rfl,hb2⟩;have HB2:Below w.heap.size w w2:=bt_ (by exact bel_) hb2;have hs2:=HB2.size;have bL2:=(bL1.alloc _).ext hb2;have kL2:=bL2.cell;have zL2:=bL2.lt;clear kL1 zL1;clear hb2) | (go_at_call 62;refine (p_first [errI (ledB l) 24,errI (daysOk [kn]) 6] 0 _ 2 2 _ (by decide) (Rd.new _ #[.int .i64 (errI (ledB l) 24),.int .i64 (errI (daysOk [kn]) 6)] _ 1 2 _ (by simp) rfl) HV.out).mono ?_;rintro e w1 ⟨rfl,rfl⟩) | (go_at_call 64;refine (p_openA l ⟨pA,pn,pc,rA,rn,rc,tA,tn,tc,sA,sn,sc⟩ kn _ HLO.out (HD.out.now (by exact bel_))).mono ?_;rintro e w5 ⟨RA,Rn,Rc,SA,Sn,Sc,bm,TA,Tn,Tc,PA,Pn,Pc,rfl,hb5,hO⟩;have HB5:Below w.heap.size w w5:=bt_ (by exact bel_) hb5;have hs5:=HB5.size;have HO:=hd_ hO;have bL5:=(bL2.alloc _).ext hb5;have kL5:=bL5.cell;have zL5:=bL5.lt;clear kL2 zL2;clear hO hb5) | (go_at_call 80;obtain ⟨xs,hxs,hx⟩:=rvs_of HO.out.acc.r;have hdb:=p_double (opnL l kn).M (cntR l kn) (opnL l kn).P xs ⟨⟨pA,pn,pc,rA,rn,rc,tA,tn,tc,sA,sn,sc⟩,kn,RA,Rn,Rc,SA,Sn,Sc,bm,TA,Tn,Tc,PA,Pn,Pc⟩ w5 HO.out.acc hx hxs;have hdm:=dbl2_map (opnL l kn).M (opnL l kn).P xs;rw [hxs,HDR.out] at hdm;obtain ⟨⟨ya,yb⟩,hdn,hde⟩:=Option.map_eq_some_iff.1 hdm;rw [hdn] at hdb;have hsa:ya.r.src=q.1.src:=congrArg (fun p:Rcp × Rcp=>p.1.src) hde;have hsb:yb.r.src=q.2.src:=congrArg (fun p:Rcp × Rcp=>p.2.src) hde;refine hdb.mono ?_;rintro e w6 ⟨hb6,rfl⟩;have HB6:Below w.heap.size w w6:=bt_ HB5 hb6;have hs6:=HB6.size;have HSA:=hd_ hsa;have HSB:=hd_ hsb;clear hdb hdm hdn hde hxs hx hsa hsb))
    go_ret2
    refine ⟨_,_,_,rfl,by exact bel_,?_,lr_,by decide⟩
    rw [← HSA.out,← HSB.out]
    exact Rd.new _ #[.int .i64 ya.r.src,.int .i64 yb.r.src] 3 1 2 _ (by simp) rfl
 ·have hres:doubleX l kn=([],v):=by rw [doubleX,if_neg (by rw [hv];exact hv0),hv]
  rw [hres]
  have hv1:(v != 0)=true:=by simpa using hv0
  clear hres hv hv0
  go_enter Tryz.func28,Tryz.ntmps28
  go_wp2_with (first | (go_at_call 12;refine (p_Check l ⟨pA,pn,pc,rA,rn,rc,tA,tn,tc,sA,sn,sc⟩ _ hpn hrn htn hsn (HD.out.now (by exact bel_))).mono ?_;rintro e w1 ⟨rfl,hb1⟩;have HB1:Below w.heap.size w w1:=bt_ (by exact bel_) hb1;have hs1:=HB1.size;have bL0:=BoxA.new w 32 #[.slice pA pn pc,.slice rA rn rc,.slice tA tn tc,.slice sA sn sc];have bL1:=bL0.ext hb1;have kL1:=bL1.cell;have zL1:=bL1.lt;clear hb1) | (go_at_call 63;refine (p_checkDays [kn] _ 1 1 _ (by decide) (Rd.new _ #[.int .i64 kn] _ 1 1 _ (by simp) rfl)).mono ?_;rintro e w2 ⟨rfl,hb2⟩;have HB2:Below w.heap.size w w2:=bt_ (by exact bel_) hb2;have hs2:=HB2.size;have bL2:=(bL1.alloc _).ext hb2;have kL2:=bL2.cell;have zL2:=bL2.lt;clear kL1 zL1;clear hb2) | (go_at_call 62;refine (p_first [errI (ledB l) 24,errI (daysOk [kn]) 6] v _ 2 2 _ (by decide) (Rd.new _ #[.int .i64 (errI (ledB l) 24),.int .i64 (errI (daysOk [kn]) 6)] _ 1 2 _ (by simp) rfl) HV.out).mono ?_;rintro e w1 ⟨rfl,rfl⟩))
  go_ret2
  exact RetLE.err (by exact bel_)
def whL (l:Led) (kn day:Int) (f:Int × Int):List Int:=whereS (stayP (opnL l kn).M (cntR l kn) f.1 f.2 day) (setP l kn) day
theorem whL_len (l:Led) (kn day:Int) (f:Int × Int):(whL l kn day f).length≤2:=by
 unfold whL whereS
 split
 ·simp
 ·split <;> simp
theorem fol_wf {l:Led} (h:LedOk l):∀ f∈folL l.pp,(Lit.int .i64 f.2).wf=true:=by
 intro f hf
 obtain ⟨p,hp,hf⟩:=List.mem_flatMap.1 hf
 obtain ⟨i,hi,rfl⟩:=List.mem_map.1 hf
 have h1:=h.pp p hp
 have h2:=List.mem_range.1 hi
 exact wf_small (by simp only;omega) (by simp only;omega)
theorem folL_len {l:Led} (h:LedOk l):(folL l.pp).length≤360:=by
 have h1:=pfol_len (fun r hr=>(h.pp r hr).2) l.pp.length
 rw [List.take_length] at h1
 have:=h.pn
 have h2:(folL l.pp).length=(l.pp.flatMap ppFol).length:=rfl
 omega
def preP (l:Led) (person day kn:Int):Int:=orL [errI (ledB l) 24,errI (withinB person 0 99) 1,errI (daysOk [day,kn]) 6]
theorem preP_zero {l:Led} {p d k:Int} (h:preP l p d k=0):ledB l=true:=by
 unfold preP at h
 cases h1:ledB l <;> simp_all [orL,errI]
def RetFE (r:List (Int × Int) × Int) (w:World) (e:Ending) (w':World):Prop:=∃ A n c,e=.returned (.tuple #[.slice A n c,.int .i64 r.2])∧Below w.heap.size w w'∧w'.ownsRow w.heap.size 48 2 (.slice A n c) n (folCells r.1)∧r.1.length=n
theorem RetFE.err {v:Int} {w w':World} (hb:Below w.heap.size w w'):RetFE ([],v) w (.returned (.tuple #[.slice none 0 0,.int .i64 v])) w':=⟨none,0,0,rfl,hb,World.ownsRow_nil _ _ _ _,rfl⟩
def leavesX (p:Int × Int→Bool) (l:Led) (person day kn:Int):List (Int × Int) × Int:=if preP l person day kn=0 then (if setE l kn=0 then ((folL l.pp).filter p,0) else ([],setE l kn)) else ([],preP l person day kn)
theorem filt_succ {α:Type} {p:α→Bool} {xs:List α} {k:Nat} {x:α} (h:xs[k]?=some x):(xs.take (k+1)).filter p=if p x=true then (xs.take k).filter p ++ [x] else (xs.take k).filter p:=by
 rw [take_snoc_some h,List.filter_append]
 split
 ·rename_i h1;simp [h1]
 ·rename_i h1;simp [h1]
theorem p_isOnly_v (l:List Int) (v:Int) (q:Bool) (A:Option Addr) (n c:Nat) (w:World) (hn:n≤1000000) (h:Is w w.heap.size A n l) (hq:decide (l=[v])=q) :
 Calls Tryz.prog 70 #[.slice A n c,.int .i64 v] w fun e w'=>e=.returned (.bool q)∧w=w':=hq ▸ p_isOnly l v A n c w hn h
set_option maxRecDepth 10000 in
theorem p_leavesOfHas (l:Led) (x:Lsl) (person day kn:Int) (w:World) (hf:x.fit) (hd:LedIn w w.heap.size x l) :
 Calls Tryz.prog 69 #[.agg #[.slice x.pA x.pn x.pc,.slice x.rA x.rn x.rc,.slice x.tA x.tn x.tc,.slice x.sA x.sn x.sc],.int .i64 person,.int .i64 day,.int .i64 kn,.func (.func 70) #[] #[]] w (RetFE (leavesX (fun f=>decide (whL l kn day f=[person])) l person day kn) w):=by
 obtain ⟨pA,pn,pc,rA,rn,rc,tA,tn,tc,sA,sn,sc⟩:=x
 have HD:=hd_ hd
 have hml:maxLen≤9223372036854775807:=by decide
 have hpn:pn≤9223372036854775807:=by have:=hf.p;dsimp only at this;omega
 have hrn:rn≤9223372036854775807:=by have:=hf.r;dsimp only at this;omega
 have htn:tn≤9223372036854775807:=by have:=hf.t;dsimp only at this;omega
 have hsn:sn≤9223372036854775807:=by have:=hf.s;dsimp only at this;omega
 clear hd hf hml
 obtain ⟨p,hp⟩:∃ p:Int × Int→Bool,(fun f=>decide (whL l kn day f=[person]))=p:=⟨_,rfl⟩
 have HP:Hid (∀ f,(decide (whL l kn day f=[person]))=p f):=by show ∀ _,_;intro f;rw [← hp]
 rw [hp]
 clear hp
 obtain ⟨v,hv⟩:∃ v,preP l person day kn=v:=⟨_,rfl⟩
 have HV:Hid (orL [errI (ledB l) 24,errI (withinB person 0 99) 1,errI (daysOk [day,kn]) 6]=v):=by show _=_;exact hv
 by_cases hv0:v=0
 ·subst hv0
  have HLO:=hd_ (led_ok (preP_zero hv))
  obtain ⟨ve,hve⟩:∃ ve,setE l kn=ve:=⟨_,rfl⟩
  by_cases he:ve=0
  ·subst he
   have hres:leavesX p l person day kn=((folL l.pp).filter p,0):=by rw [leavesX,if_pos hv,if_pos hve]
   rw [hres]
   have HSE:=hd_ hve
   have hpn12:pn≤12:=by have h1:=HLO.out.pn;have h2:l.pp.length=pn:=HD.out.p.len;omega
   obtain ⟨i0,hi,hz0,hz1,hz2⟩:=info_parts infoFol
   have hfl:=folL_len HLO.out
   have HFW:=hd_ (fol_wf HLO.out)
   obtain ⟨fs,hfs⟩:∃ fs,folL l.pp=fs:=⟨_,rfl⟩
   have HFS:=hd_ hfs
   clear hres hv hve
   go_enter Tryz.func69,Tryz.ntmps69
   go_wp2_with (first | (go_at_call 12;refine (p_Check l ⟨pA,pn,pc,rA,rn,rc,tA,tn,tc,sA,sn,sc⟩ _ hpn hrn htn hsn (HD.out.now (by exact bel_))).mono ?_;rintro e w1 ⟨rfl,hb1⟩;have HB1:Below w.heap.size w w1:=bt_ (by exact bel_) hb1;have hs1:=HB1.size;have bL0:=BoxA.new w 32 #[.slice pA pn pc,.slice rA rn rc,.slice tA tn tc,.slice sA sn sc];have bL1:=bL0.ext hb1;have kL1:=bL1.cell;have zL1:=bL1.lt;clear hb1) | (go_at_call 122;refine (p_checkPerson2 person _).mono ?_;rintro e w1 ⟨rfl,rfl⟩) | (go_at_call 63;refine (p_checkDays [day,kn] _ 2 2 _ (by decide) (Rd.new _ #[.int .i64 day,.int .i64 kn] _ 1 2 _ (by simp) rfl)).mono ?_;rintro e w2 ⟨rfl,hb2⟩;have HB2:Below w.heap.size w w2:=bt_ (by exact bel_) hb2;have hs2:=HB2.size;have bL2:=(bL1.alloc _).ext hb2;have kL2:=bL2.cell;have zL2:=bL2.lt;clear kL1 zL1;clear hb2) | (go_at_call 62;refine (p_first [errI (ledB l) 24,errI (withinB person 0 99) 1,errI (daysOk [day,kn]) 6] 0 _ 3 3 _ (by decide) (Rd.new _ #[.int .i64 (errI (ledB l) 24),.int .i64 (errI (withinB person 0 99) 1),.int .i64 (errI (daysOk [day,kn]) 6)] _ 1 3 _ (by simp) rfl) HV.out).mono ?_;rintro e w1 ⟨rfl,rfl⟩) | (go_at_call 64;refine (p_openA l ⟨pA,pn,pc,rA,rn,rc,tA,tn,tc,sA,sn,sc⟩ kn _ HLO.out (HD.out.now (by exact bel_))).mono ?_;rintro e w5 ⟨RA,Rn,Rc,SA,Sn,Sc,bm,TA,Tn,Tc,PA,Pn,Pc,rfl,hb5,hO⟩;have HB5:Below w.heap.size w w5:=bt_ (by exact bel_) hb5;have hs5:=HB5.size;have HO:=hd_ hO;have bL5:=(bL2.alloc _).ext hb5;have kL5:=bL5.cell;have zL5:=bL5.lt;clear kL2 zL2;clear hO hb5) | (go_at_call 73;refine (p_settle0 l kn ⟨⟨pA,pn,pc,rA,rn,rc,tA,tn,tc,sA,sn,sc⟩,kn,RA,Rn,Rc,SA,Sn,Sc,bm,TA,Tn,Tc,PA,Pn,Pc⟩ w5 HLO.out HO.out HSE.out).mono ?_;rintro e w6 ⟨PA2,Pc2,rfl,hb6,hbx6,hac6,hlp6⟩;have HB6:Below w.heap.size w w6:=bt_ HB5 hb6;have hs6:=HB6.size;have k6:=hbx6.cell;have z6:=hbx6.lt;have HAC:=hd_ hac6;have HLP:=hd_ hlp6;have HBX:=hd_ hbx6;have hs56:=hb6.size;have bL6:=bL5.ext hb6;have kL6:=bL6.cell;have zL6:=bL6.lt;clear kL5 zL5;clear hac6 hlp6 hbx6 hb6) | (go_at_call 96;refine (p_folios l ⟨pA,pn,pc,rA,rn,rc,tA,tn,tc,sA,sn,sc⟩ w6 hpn12 HLO.out.pp ((HD.out.now HB6))).mono ?_;rintro e w7 ⟨vf,rfl,hb7,hof⟩;obtain ⟨AF,cF,rfl,hcF⟩:=own_slice hof;have HB7:Below w.heap.size w w7:=HB6.trans (hb7.mono hs6);have hs7:=hb7.size;have HSF:=hd_ (sq_of_own hof rfl);have HBX7:=hd_ (HBX.out.ext hb7);have HAC7:=hd_ (HAC.out.now hb7);clear hof kL6 zL6 k6 z6))
   have hnf:Hid ((folL l.pp).length=fs.length):=by show _=_;rw [HFS.out]
   have HWH:Hid (∀ (W:World) (a b:Int),Below w7.heap.size w7 W→(Lit.int .i64 b).wf=true→Calls Tryz.prog 74 #[.agg #[.slice pA pn pc,.slice rA rn rc,.slice tA tn tc,.slice sA sn sc,.int .i64 kn,.slice RA Rn Rc,.slice SA Sn Sc,.map (some bm),.slice TA Tn Tc,.slice PA2 Pn Pc2],.agg #[.int .i64 a,.int .i64 b],.int .i64 day] W (RetO (whL l kn day (a,b)) W)):=by
    show ∀ _,_
    exact fun W a b hW hwf=>p_where _ _ _ ⟨⟨pA,pn,pc,rA,rn,rc,tA,tn,tc,sA,sn,sc⟩,kn,RA,Rn,Rc,SA,Sn,Sc,bm,TA,Tn,Tc,PA2,Pn,Pc2⟩ a b day W (HAC7.out.now hW) hwf
   have hHF:=HSF.out
   (try rw [HFS.out] at hHF)
   (try rw [HFS.out] at hfl)
   (try rw [HFS.out])
   have HHF:=hd_ hHF
   clear hHF
   go_loopw [15,41] (fun v i wr=>∃ k:Nat,k≤fs.length∧i=.int .i64 k∧wr.ownsRow w7.heap.size 48 2 v ((fs.take k).filter p).length (folCells ((fs.take k).filter p))∧Below w7.heap.size w7 wr) (fun _ i _=>fs.length - (intOf i).toNat)
   case atStart=>exact ⟨0,by omega,rfl,World.ownsRow_nil _ _ _ _,Below.refl _ _⟩
   case round =>
    obtain ⟨k,hk,rfl,hown,hB⟩:=hrel
    have hsB:=hB.size
    have bAw:=HBX7.out.ext hB
    have kAw:=bAw.cell
    have zAw:=bAw.lt
    obtain ⟨xl,hxl⟩:∃ xl,(fs.take k).filter p=xl:=⟨_,rfl⟩
    have hxn:xl.length≤360:=by
     have h1:=List.length_filter_le p (fs.take k)
     rw [hxl,List.length_take] at h1
     omega
    rw [hxl] at hown
    have HO:=hd_ hown
    have HXL:=hd_ hxl
    clear hown hxl
    by_cases hlt:k<fs.length
    ·obtain ⟨b,o,f,hAF,hb,hf,q0,q1⟩:=(Sq.ext HHF.out abF hB lr_).at_ hlt
     have hbr:b<wr.heap.size:=by omega
     have HWF:=hd_ (HFW.out f (by rw [HFS.out];exact List.mem_of_getElem? hf))
     have HF:=hd_ (filt_succ (p:=p) hf)
     have HAF:=hd_ hAF
     rw [hAF]
     clear hf hAF
     obtain ⟨q,hq⟩:∃ q,p f=q:=⟨_,rfl⟩
     have HQ:=hd_ ((HP.out f).trans hq)
     cases q with
     | true =>
       have HN:Hid ((fs.take (k+1)).filter p=xl ++ [f]):=by show _=_;rw [HF.out,if_pos hq,HXL.out]
       clear hq
       go_wp2_with (first | (go_at_call 74;refine (HWH.out _ f.1 f.2 (hB.trans ((show Below wr.heap.size wr _ by exact bel_).mono hsB)) HWF.out).mono ?_;rintro e w8 ⟨v8,rfl,hb8,ho8⟩;obtain ⟨A8,c8,rfl,hc8⟩:=own_slice ho8;have HB8:Below wr.heap.size wr w8:=bt_ (by exact bel_) hb8;have hs8:=HB8.size;have bF8:=(BoxA.new wr 48 #[.int .i64 f.1,.int .i64 f.2]).ext hb8;have kF8:=bF8.cell;have zF8:=bF8.lt;have HI8:=hd_ (Rd.of_own ho8);have hl8:=whL_len l kn day (f.1,f.2);clear ho8 hb8) | (go_at_call 70;refine (p_isOnly_v (whL l kn day f) person _ _ _ _ _ (by omega) HI8.out HQ.out).mono ?_;rintro e w9 ⟨rfl,rfl⟩) | (at_builtin;refine wpList_append_own _ rfl (.tmp 52) (.tmp 54) 44 rfl w7.heap.size 48 i0 _ 2 16 Tryz.underlying44 hi hz0 hz1 hz2 rfl (by decide) _ _ _ rfl ((own_ex HO.out HB8).alloc (.cells #[.int .i64 f.1,.int .i64 f.2] 48)) ⟨w8.heap.size,0,none⟩ 1 1 [.int .i64 f.1,.int .i64 f.2] rfl rfl ?c1 ?c2 ?c3 ?c4 ?c5 ?_;rotate_left 5;intro v' w2 hown2 hgrow2 _))
       case c1=>intro j u hj;match j,hj with
        | 0,hj=>simp at hj;subst hj;simp [Addr.add]
        | 1,hj=>simp at hj;subst hj;simp [Addr.add]
       case c2=>simp [Value.oneCell']
       case c3=>unfold maxLen;omega
       case c4=>omega
       case c5=>simp;omega
       go_roundw
       case rel =>
        refine ⟨k+1,by omega,by go_num,?_,OwnS.below ((hB.trans (HB8.mono hsB)).alloc (by omega) _) ((own_ex HO.out HB8).alloc (.cells #[.int .i64 f.1,.int .i64 f.2] 48)) (by simp;omega) hgrow2⟩
        rw [HN.out,List.length_append]
        have e1:folCells (xl ++ [f])=folCells xl ++ [.int .i64 f.1,.int .i64 f.2]:=by simp [folCells]
        rw [e1]
        exact hown2
       case measure=>exact ms_
     | false =>
       have HN:Hid ((fs.take (k+1)).filter p=xl):=by show _=_;rw [HF.out,if_neg (by rw [hq];simp),HXL.out]
       clear hq
       go_wp2_with (first | (go_at_call 74;refine (HWH.out _ f.1 f.2 (hB.trans ((show Below wr.heap.size wr _ by exact bel_).mono hsB)) HWF.out).mono ?_;rintro e w8 ⟨v8,rfl,hb8,ho8⟩;obtain ⟨A8,c8,rfl,hc8⟩:=own_slice ho8;have HB8:Below wr.heap.size wr w8:=bt_ (by exact bel_) hb8;have hs8:=HB8.size;have bF8:=(BoxA.new wr 48 #[.int .i64 f.1,.int .i64 f.2]).ext hb8;have kF8:=bF8.cell;have zF8:=bF8.lt;have HI8:=hd_ (Rd.of_own ho8);have hl8:=whL_len l kn day (f.1,f.2);clear ho8 hb8) | (go_at_call 70;refine (p_isOnly_v (whL l kn day f) person _ _ _ _ _ (by omega) HI8.out HQ.out).mono ?_;rintro e w9 ⟨rfl,rfl⟩))
       go_roundw
       case rel=>exact ⟨k+1,by omega,by go_num,by rw [HN.out];exact own_ex HO.out HB8,hB.trans (HB8.mono hsB)⟩
       case measure=>exact ms_
    ·have hkn:Hid (k=fs.length):=by show _=_;omega
     have hall:fs.filter p=xl:=by rw [← HXL.out,hkn.out,List.take_length]
     have hall2:(folL l.pp).filter p=xl:=by rw [HFS.out];exact hall
     have HALL:=hd_ hall2
     clear hall hall2
     have hO:=HO.out
     obtain ⟨A9,c9,rfl,hc9⟩:=own_slice hO
     go_wp2
     go_ret2
     exact ⟨A9,_,c9,rfl,HB7.trans (hB.mono (by omega)),by rw [HALL.out];exact own_dn hO (by omega),by rw [HALL.out]⟩
  ·have hres:leavesX p l person day kn=([],ve):=by rw [leavesX,if_pos hv,if_neg (by rw [hve];exact he),hve]
   rw [hres]
   have HSE:=hd_ hve
   have HVE:=hd_ he
   have hed:(ve != 0)=true:=by simpa using he
   clear hres hv hve he
   go_enter Tryz.func69,Tryz.ntmps69
   go_wp2_with (first | (go_at_call 12;refine (p_Check l ⟨pA,pn,pc,rA,rn,rc,tA,tn,tc,sA,sn,sc⟩ _ hpn hrn htn hsn (HD.out.now (by exact bel_))).mono ?_;rintro e w1 ⟨rfl,hb1⟩;have HB1:Below w.heap.size w w1:=bt_ (by exact bel_) hb1;have hs1:=HB1.size;have bL0:=BoxA.new w 32 #[.slice pA pn pc,.slice rA rn rc,.slice tA tn tc,.slice sA sn sc];have bL1:=bL0.ext hb1;have kL1:=bL1.cell;have zL1:=bL1.lt;clear hb1) | (go_at_call 122;refine (p_checkPerson2 person _).mono ?_;rintro e w1 ⟨rfl,rfl⟩) | (go_at_call 63;refine (p_checkDays [day,kn] _ 2 2 _ (by decide) (Rd.new _ #[.int .i64 day,.int .i64 kn] _ 1 2 _ (by simp) rfl)).mono ?_;rintro e w2 ⟨rfl,hb2⟩;have HB2:Below w.heap.size w w2:=bt_ (by exact bel_) hb2;have hs2:=HB2.size;have bL2:=(bL1.alloc _).ext hb2;have kL2:=bL2.cell;have zL2:=bL2.lt;clear kL1 zL1;clear hb2) | (go_at_call 62;refine (p_first [errI (ledB l) 24,errI (withinB person 0 99) 1,errI (daysOk [day,kn]) 6] 0 _ 3 3 _ (by decide) (Rd.new _ #[.int .i64 (errI (ledB l) 24),.int .i64 (errI (withinB person 0 99) 1),.int .i64 (errI (daysOk [day,kn]) 6)] _ 1 3 _ (by simp) rfl) HV.out).mono ?_;rintro e w1 ⟨rfl,rfl⟩) | (go_at_call 64;refine (p_openA l ⟨pA,pn,pc,rA,rn,rc,tA,tn,tc,sA,sn,sc⟩ kn _ HLO.out (HD.out.now (by exact bel_))).mono ?_;rintro e w5 ⟨RA,Rn,Rc,SA,Sn,Sc,bm,TA,Tn,Tc,PA,Pn,Pc,rfl,hb5,hO⟩;have HB5:Below w.heap.size w w5:=bt_ (by exact bel_) hb5;have hs5:=HB5.size;have HO:=hd_ hO;have bL5:=(bL2.alloc _).ext hb5;have kL5:=bL5.cell;have zL5:=bL5.lt;clear kL2 zL2;clear hO hb5) | (go_at_call 73;refine (p_settleN l kn ⟨⟨pA,pn,pc,rA,rn,rc,tA,tn,tc,sA,sn,sc⟩,kn,RA,Rn,Rc,SA,Sn,Sc,bm,TA,Tn,Tc,PA,Pn,Pc⟩ ve w5 HLO.out HO.out HSE.out HVE.out).mono ?_;rintro e w6 ⟨rfl,hb6⟩;have HB6:Below w.heap.size w w6:=bt_ HB5 hb6;have hs6:=HB6.size;have bL6:=bL5.ext hb6;have kL6:=bL6.cell;have zL6:=bL6.lt;clear hb6))
   go_ret2
   exact RetFE.err HB6
 ·have hres:leavesX p l person day kn=([],v):=by rw [leavesX,if_neg (by rw [hv];exact hv0),hv]
  rw [hres]
  have hv1:(v != 0)=true:=by simpa using hv0
  clear hres hv hv0
  go_enter Tryz.func69,Tryz.ntmps69
  go_wp2_with (first | (go_at_call 12;refine (p_Check l ⟨pA,pn,pc,rA,rn,rc,tA,tn,tc,sA,sn,sc⟩ _ hpn hrn htn hsn (HD.out.now (by exact bel_))).mono ?_;rintro e w1 ⟨rfl,hb1⟩;have HB1:Below w.heap.size w w1:=bt_ (by exact bel_) hb1;have hs1:=HB1.size;have bL0:=BoxA.new w 32 #[.slice pA pn pc,.slice rA rn rc,.slice tA tn tc,.slice sA sn sc];have bL1:=bL0.ext hb1;have kL1:=bL1.cell;have zL1:=bL1.lt;clear hb1) | (go_at_call 122;refine (p_checkPerson2 person _).mono ?_;rintro e w1 ⟨rfl,rfl⟩) | (go_at_call 63;refine (p_checkDays [day,kn] _ 2 2 _ (by decide) (Rd.new _ #[.int .i64 day,.int .i64 kn] _ 1 2 _ (by simp) rfl)).mono ?_;rintro e w2 ⟨rfl,hb2⟩;have HB2:Below w.heap.size w w2:=bt_ (by exact bel_) hb2;have hs2:=HB2.size;have bL2:=(bL1.alloc _).ext hb2;have kL2:=bL2.cell;have zL2:=bL2.lt;clear kL1 zL1;clear hb2) | (go_at_call 62;refine (p_first [errI (ledB l) 24,errI (withinB person 0 99) 1,errI (daysOk [day,kn]) 6] v _ 3 3 _ (by decide) (Rd.new _ #[.int .i64 (errI (ledB l) 24),.int .i64 (errI (withinB person 0 99) 1),.int .i64 (errI (daysOk [day,kn]) 6)] _ 1 3 _ (by simp) rfl) HV.out).mono ?_;rintro e w1 ⟨rfl,rfl⟩))
  go_ret2
  exact RetFE.err (by exact bel_)
set_option maxRecDepth 10000 in
theorem p_HasX (l:Led) (x:Lsl) (person day kn:Int) (w:World) (hf:x.fit) (hd:LedIn w w.heap.size x l) :
 Calls Tryz.prog 15 #[.agg #[.slice x.pA x.pn x.pc,.slice x.rA x.rn x.rc,.slice x.tA x.tn x.tc,.slice x.sA x.sn x.sc],.int .i64 person,.int .i64 day,.int .i64 kn] w (RetFE (leavesX (fun f=>decide (whL l kn day f=[person])) l person day kn) w):=by
 obtain ⟨pA,pn,pc,rA,rn,rc,tA,tn,tc,sA,sn,sc⟩:=x
 have HD:=hd_ hd
 have HC:Hid (∀ W:World,Below w.heap.size w W→Calls Tryz.prog 69 #[.agg #[.slice pA pn pc,.slice rA rn rc,.slice tA tn tc,.slice sA sn sc],.int .i64 person,.int .i64 day,.int .i64 kn,.func (.func 70) #[] #[]] W (RetFE (leavesX (fun f=>decide (whL l kn day f=[person])) l person day kn) W)):=by
  show ∀ _,_
  exact fun W hW=>p_leavesOfHas l ⟨pA,pn,pc,rA,rn,rc,tA,tn,tc,sA,sn,sc⟩ person day kn W hf (HD.out.now hW)
 obtain ⟨r,hr⟩:∃ r,leavesX (fun f=>decide (whL l kn day f=[person])) l person day kn=r:=⟨_,rfl⟩
 rw [hr] at HC ⊢
 clear hr hd hf
 go_enter Tryz.func15,Tryz.ntmps15
 go_wp2_with (go_at_call 69;refine (HC.out _ (by exact bel_)).mono ?_;rintro e w5 ⟨A,n,c,rfl,hb5,ho5,hl5⟩;have HB5:Below w.heap.size w w5:=bt_ (by exact bel_) hb5;have HO5:=hd_ ho5;have HL5:=hd_ hl5;clear ho5 hl5)
 go_ret2
 exact ⟨A,n,c,rfl,HB5,own_dn HO5.out (by simp),HL5.out⟩
end Go.Proofs.YtmcmbicapdcfmaaGreat
