/- Layer 2 of the texts that LoanWheres takes: Ubkq. -/
import Derived.Test.YtoiompoapikkbaaGreatUbjq
set_option linter.unusedVariables false
set_option linter.unusedSimpArgs false
/- Layer 2: which return tells of a leaf: the program's map is the reference's search. -/
namespace Go.Proofs.YtoiompoapikkbaaGreat
open Go.RowKit Go.Maps
theorem getN_putK_eq (M:List ((Int × Int) × Nat)) (src:Int) (i:Nat) (l:List Int) (k:Int × Int):getN (putK M src i l) k=if k.1=src∧k.2∈l then some i else getN M k:=by
 induction l generalizing M with
 | nil=>simp [putK]
 | cons x l ih =>
   have e:putK M src i (x :: l)=putK (putN M (src,x) i) src i l:=rfl
   rw [e,ih,getN_put]
   obtain ⟨a,b⟩:=k
   by_cases h1:a=src∧b∈l
   ·simp [h1]
   ·by_cases h2:(a,b)=(src,x)
    ·obtain ⟨rfl,rfl⟩:=Prod.mk.inj h2
     simp
    ·have h3:¬ (a=src∧b∈x :: l):=by
      rintro ⟨rfl,hb⟩
      rcases List.mem_cons.1 hb with rfl | hb
      ·exact h2 rfl
      ·exact h1 ⟨rfl,hb⟩
     rw [if_neg h1,if_neg h2,if_neg h3]
theorem find_none_set {B:List Bool} {k:Nat} (hk:k<B.length) (h:B.findIdx? id=none):(B.set k true).findIdx? id=some k:=by
 rw [List.findIdx?_eq_some_iff_getElem]
 refine ⟨by simpa using hk,by simp,fun j hj=>?_⟩
 have h2:=List.findIdx?_eq_none_iff.1 h B[j] (List.getElem_mem (by omega))
 rw [List.getElem_set_ne (by omega)]
 simpa using h2
theorem zip_set {T:List Bool} {rt:List Rtn} {k:Nat} {t:Rtn} {b:Bool} (ht:rt[k]?=some t) (s x:Int) :
 ((T.set k b).zip rt).map (rtAt s x)=((T.zip rt).map (rtAt s x)).set k (rtAt s x (b,t)):=by
 apply List.ext_getElem?
 intro j
 have hg:∀ U:List Bool,((U.zip rt).map (rtAt s x))[j]?=(match U[j]?,rt[j]? with | some a,some c=>some (rtAt s x (a,c)) | _,_=>none):=fun U=>by
  rw [List.getElem?_map,List.zip,List.getElem?_zipWith]
  cases U[j]? <;> cases rt[j]? <;> rfl
 rw [hg,List.getElem?_set,List.getElem?_set,hg]
 by_cases hkj:k=j
 ·subst hkj
  have hl:k<rt.length:=(List.getElem?_eq_some_iff.1 ht).1
  by_cases hk:k<T.length
  ·have he:rt[k]=t:=(List.getElem?_eq_some_iff.1 ht).2
   simp [hk,hl,he]
   try omega
  ·simp [hk]
   try omega
 ·simp [hkj]
theorem opn_inv (kn:Int) (R:List Rcp) (rt:List Rtn):∀ k,k≤rt.length→(∀ s x,getN (opnK kn R rt rt.length k).M (s,x)=rtIx (opnK kn R rt rt.length k).T rt s x)∧∀ j,k≤j→j<rt.length→(opnK kn R rt rt.length k).T[j]?=some false
 | 0,_=>by
   refine ⟨fun s x=>?_,fun j _ hj=>by rw [opnK_zero];simp [hj]⟩
   rw [opnK_zero]
   show none=_
   rw [rtIx,eq_comm,List.findIdx?_eq_none_iff]
   intro p hp
   have h:=(List.of_mem_zip (a:=p.1) (b:=p.2) hp).1
   have h2:=List.eq_of_mem_replicate h
   simp [rtAt,h2]
 | k+1,hk=>by
   obtain ⟨ih1,ih2⟩:=opn_inv kn R rt k (by omega)
   obtain ⟨t,ht⟩:∃ t,rt[k]?=some t:=⟨rt[k],List.getElem?_eq_getElem (by omega)⟩
   rw [opnK_succ ht]
   generalize opnK kn R rt rt.length k=S at ih1 ih2
   unfold readS
   cases hr:readR kn R S.M t with
   | none=>exact ⟨ih1,fun j hj hl=>ih2 j (by omega) hl⟩
   | some r =>
     have hTk:=ih2 k (Nat.le_refl _) (by omega)
     have hlt:k<S.T.length:=(List.getElem?_eq_some_iff.1 hTk).1
     have hrr:r.src=t.rcp∧takesB (encM S.M) r t.lv=true:=by
      unfold readR at hr
      split at hr
      ·cases hr
      ·rename_i r' hf
       split at hr
       ·rename_i hc
        obtain rfl:=Option.some.inj hr
        have:=List.find?_some hf
        simp only [Bool.and_eq_true] at hc
        exact ⟨by simpa using this,hc.2.1⟩
       ·cases hr
     refine ⟨fun s x=>?_,fun j hj hl=>?_⟩
     ·show getN (putK S.M r.src k t.lv) (s,x)=rtIx (S.T.set k true) rt s x
      rw [getN_putK_eq,rtIx]
      have e:∀ L:List (Bool × Rtn),L.findIdx? (rtAt s x)=(L.map (rtAt s x)).findIdx? id:=fun L=>by rw [List.findIdx?_map];rfl
      rw [e,zip_set ht]
      have hB:((S.T.zip rt).map (rtAt s x))[k]?=some false:=by
       rw [List.getElem?_map,List.zip,List.getElem?_zipWith,hTk,ht]
       simp [rtAt]
      have ih:=ih1 s x
      rw [rtIx,e] at ih
      by_cases hc:s=r.src∧x∈t.lv
      ·have hv:rtAt s x (true,t)=true:=by simp [rtAt,hc.1,hc.2,hrr.1]
       have hg:=List.all_eq_true.1 hrr.2 x hc.2
       rw [getG_enc] at hg
       have hn:getN S.M (s,x)=none:=by
        rw [hc.1]
        simp at hg
        exact hg.1
       rw [if_pos hc,hv,find_none_set (List.getElem?_eq_some_iff.1 hB).1 (ih.symm.trans hn)]
      ·have hv:rtAt s x (true,t)=false:=by
        simp only [rtAt,Bool.true_and,Bool.and_eq_false_iff,decide_eq_false_iff_not]
        by_cases h1:t.rcp=s
        ·exact .inr fun h2=>hc ⟨by rw [← h1,hrr.1],h2⟩
        ·exact .inl h1
       rw [if_neg hc,hv,ih]
       congr 1
       rw [eq_comm,← List.getElem?_eq_some_iff.1 hB |>.2,List.set_getElem_self]
     ·show (S.T.set k true)[j]?=some false
      rw [List.getElem?_set_ne (by omega)]
      exact ih2 j (by omega) hl
theorem opn_rt (l:Led) (kn s x:Int):getN (opnL l kn).M (s,x)=rtIx (opnL l kn).T l.rt s x:=(opn_inv kn (cntR l kn) l.rt l.rt.length (Nat.le_refl _)).1 s x
end Go.Proofs.YtoiompoapikkbaaGreat
/- Layer 2, the reference: last. -/
namespace Go.Proofs.YtoiompoapikkbaaGreat
open Go.RowKit Go.Maps
theorem r_isOf_v (l:Led) (v:Vw) (i:Nat) (r:Rcp) (pap leaf:Int) (q:Bool) (w:World) (hn:v.x.rn≤1000000) (hd:LedIn w w.heap.size v.x l) (hr:l.rc[i]?=some r) (hq:(countsB r.kn r.un v.kn && isOfB pap leaf r)=q) :
 Calls Tryz.prog 169 #[vwV v,.int .i64 i,.agg #[.int .i64 pap,.int .i64 leaf]] w fun e w'=>e=.returned (.bool q)∧Below w.heap.size w w':=hq ▸ r_isOf l v i r pap leaf w hn hd hr
def newer (s:Option (Nat × Int)) (day:Int):Bool:=match s with
 | none=>true
 | some p=>decide (p.2<day)
def lastStep (kn pap leaf day:Int) (R:List Rcp) (s:Option (Nat × Int)) (i:Nat):Option (Nat × Int):=match R[i]? with
 | none=>s
 | some r=>if ((countsB r.kn r.un kn && isOfB pap leaf r) && (decide (r.day≤day) && newer s r.day))=true then some (i,r.day) else s
def lastK (kn pap leaf day:Int) (R:List Rcp) (k:Nat):Option (Nat × Int):=(List.range k).foldl (lastStep kn pap leaf day R) none
theorem lastK_succ (kn pap leaf day:Int) (R:List Rcp) (k:Nat):lastK kn pap leaf day R (k+1)=lastStep kn pap leaf day R (lastK kn pap leaf day R k) k:=by
 rw [lastK,List.range_succ,List.foldl_append];rfl
theorem lastK_at {kn pap leaf day:Int} {R:List Rcp}:∀ {k:Nat} {j:Nat} {d:Int},lastK kn pap leaf day R k=some (j,d)→j<k∧∃ r,R[j]?=some r∧r.day=d
 | 0,j,d,h=>by simp [lastK] at h
 | k+1,j,d,h=>by
   rw [lastK_succ,lastStep] at h
   cases hr:R[k]? with
   | none =>
     rw [hr] at h
     obtain ⟨h1,h2⟩:=lastK_at h
     exact ⟨by omega,h2⟩
   | some r =>
     rw [hr] at h
     simp only at h
     split at h
     ·simp only [Option.some.injEq,Prod.mk.injEq] at h
      obtain ⟨rfl,rfl⟩:=h
      exact ⟨by omega,r,hr,rfl⟩
     ·obtain ⟨h1,h2⟩:=lastK_at h
      exact ⟨by omega,h2⟩
def lastI:Option (Nat × Int)→Int
 | some p=>p.1
 | none=>-1
set_option maxRecDepth 10000 in
set_option maxHeartbeats 8000000 in
theorem r_last (l:Led) (v:Vw) (pap leaf day:Int) (w:World) (hn:v.x.rn≤1000000) (hd:LedIn w w.heap.size v.x l) :
 Calls Tryz.prog 173 #[vwV v,.agg #[.int .i64 pap,.int .i64 leaf],.int .i64 day] w fun e w'=>e=.returned (.int .i64 (lastI (lastK v.kn pap leaf day l.rc l.rc.length)))∧Below w.heap.size w w':=by
 obtain ⟨⟨pA,pn,pc,rA,rn,rc,tA,tn,tc,sA,sn,sc⟩,kn,TA,Tn,Tc,DA,Dn,Dc⟩:=v
 show Calls _ _ #[.agg #[.slice pA pn pc,.slice rA rn rc,.slice tA tn tc,.slice sA sn sc,.int .i64 kn,.slice TA Tn Tc,.slice DA Dn Dc],_,_] _ (fun e w'=>e=.returned (.int .i64 (lastI (lastK kn pap leaf day l.rc l.rc.length)))∧Below w.heap.size w w')
 have HI:Hid (∀ (W:World) (i:Nat) (r:Rcp) (q:Bool),Below w.heap.size w W→l.rc[i]?=some r→(countsB r.kn r.un kn && isOfB pap leaf r)=q→Calls Tryz.prog 169 #[.agg #[.slice pA pn pc,.slice rA rn rc,.slice tA tn tc,.slice sA sn sc,.int .i64 kn,.slice TA Tn Tc,.slice DA Dn Dc],.int .i64 i,.agg #[.int .i64 pap,.int .i64 leaf]] W fun e w'=>e=.returned (.bool q)∧Below W.heap.size W w'):=by
  show ∀ _,_
  exact fun W i r q hW h1 h2=>r_isOf_v l ⟨⟨pA,pn,pc,rA,rn,rc,tA,tn,tc,sA,sn,sc⟩,kn,TA,Tn,Tc,DA,Dn,Dc⟩ i r pap leaf q W hn (hd.now hW) h1 h2
 have HR:Hid (Rcs w w.heap.size rA rn l.rc):=by show Sq _ _ _ _ _ _ _;exact hd.r
 have hrn:rn≤1000000:=hn
 rw [HR.out.len]
 clear hd hn
 go_enter Tryz.func173,Tryz.ntmps173
 go_wp2
 go_loopw [7,8] (fun u i wr=>∃ k:Nat,k≤rn∧i=.int .i64 k∧u=.int .i64 (lastI (lastK kn pap leaf day l.rc k))∧Below w.heap.size w wr∧BoxA wr w.heap.size 127 #[.slice pA pn pc,.slice rA rn rc,.slice tA tn tc,.slice sA sn sc,.int .i64 kn,.slice TA Tn Tc,.slice DA Dn Dc]∧BoxA wr (w.heap.size+1) 60 #[.int .i64 pap,.int .i64 leaf]) (fun _ i _=>rn - (intOf i).toNat)
 case atStart=>exact ⟨0,by omega,rfl,rfl,by exact bel_,(BoxA.new _ _ _).alloc _,by have h:=BoxA.new (w.alloc (.cells #[.slice pA pn pc,.slice rA rn rc,.slice tA tn tc,.slice sA sn sc,.int .i64 kn,.slice TA Tn Tc,.slice DA Dn Dc] 127)) 60 #[.int .i64 pap,.int .i64 leaf];simpa using h⟩
 case round =>
  obtain ⟨k,hk,rfl,rfl,hB,hbx,hbf⟩:=hrel
  have hs0:=hB.size
  have kx:=hbx.cell
  have zx:=hbx.lt
  have kf:=hbf.cell
  have zf:=hbf.lt
  by_cases hlt:k<rn
  ·obtain ⟨b,o,r,rfl,hb,hx,A1,n1,c1,⟨h0,h1,h2,h3,h4,h5,h6⟩,hi1,hc1,hm1⟩:=(Sq.ext HR.out abR hB (Nat.le_refl _)).at_ hlt
   have HX:=Lib.hid hx
   have hbr:b<wr.heap.size:=by omega
   have HS:=Lib.hid (lastK_succ kn pap leaf day l.rc k)
   have hrows:∀ (W:World) (j:Nat) (r2:Rcp),Below w.heap.size w W→l.rc[j]?=some r2→W.cell? ⟨b,o+j*7+4,none⟩=some (.int .i64 r2.day):=fun W j r2 hW hj=>by
    obtain ⟨b',o',y,e',_,hy,_,_,_,⟨_,_,_,_,g4,_,_⟩,_⟩:=(Sq.ext HR.out abR hW (Nat.le_refl _)).at_ (k:=j) (by rw [← HR.out.len];exact (List.getElem?_eq_some_iff.1 hj).1)
    obtain ⟨rfl,rfl⟩:b=b'∧o=o':=by simpa using e'
    obtain rfl:r2=y:=Option.some.inj (hj.symm.trans hy)
    exact g4
   have HW:=Lib.hid hrows
   clear hx hi1 hrows
   obtain ⟨s,hs⟩:∃ s,lastK kn pap leaf day l.rc k=s:=⟨_,rfl⟩
   have HSs:=Lib.hid hs
   rw [hs] at HS
   rw [hs]
   clear hs
   have hstep:∀ s':Option (Nat × Int),lastStep kn pap leaf day l.rc s k=s'→lastK kn pap leaf day l.rc (k+1)=s':=fun s' h=>HS.out.trans h
   have HST:=Lib.hid hstep
   clear hstep
   cases hq:(countsB r.kn r.un kn && isOfB pap leaf r) with
   | false =>
     have HF:=Lib.hid (HST.out s (by simp only [lastStep,HX.out,hq];rfl))
     have hcall:=HI.out wr k r false hB HX.out hq
     clear hq
     go_wp2_with (go_at_call 169;refine hcall.mono ?_;rintro e w1 ⟨rfl,hb1⟩)
     go_roundw
     case rel=>exact ⟨k+1,by omega,by go_num,by rw [HF.out] <;> rfl,Below.then_ hB hb1,hbx.ext hb1,hbf.ext hb1⟩
     case measure=>exact ms_
   | true =>
     have hcall:=HI.out wr k r true hB HX.out hq
     by_cases hd:r.day≤day
     ·cases s with
      | none =>
        have HF:=Lib.hid (HST.out (some (k,r.day)) (by simp only [lastStep,HX.out,hq];simp [hd,newer]))
        clear hq
        simp only [lastI]
        go_wp2_with (go_at_call 169;refine hcall.mono ?_;rintro e w1 ⟨rfl,hb1⟩)
        go_roundw
        case rel=>exact ⟨k+1,by omega,by go_num,by rw [HF.out] <;> rfl,Below.then_ hB hb1,hbx.ext hb1,hbf.ext hb1⟩
        case measure=>exact ms_
      | some p =>
        obtain ⟨j,d⟩:=p
        obtain ⟨hjk,r2,hj2,hd2⟩:=lastK_at HSs.out
        subst hd2
        simp only [lastI]
        have hmx:max (j:Int) 0=(j:Int):=by omega
        by_cases hlt2:r2.day<r.day
        ·have HF:=Lib.hid (HST.out (some (k,r.day)) (by simp only [lastStep,HX.out,hq];simp [hd,hlt2,newer]))
         clear hq
         go_wp2_with (go_at_call 169;refine hcall.mono ?_;rintro e w1 ⟨rfl,hb1⟩;have g4:=HW.out w1 j r2 (Below.then_ hB hb1) hj2;have kx1:=(hbx.ext hb1).cell;have zb1:=Nat.lt_of_lt_of_le hbr hb1.size;have zx1:=(hbx.ext hb1).lt)
         go_roundw
         case rel=>exact ⟨k+1,by omega,by go_num,by rw [HF.out] <;> rfl,Below.then_ hB hb1,hbx.ext hb1,hbf.ext hb1⟩
         case measure=>exact ms_
        ·have HF:=Lib.hid (HST.out (some (j,r2.day)) (by simp only [lastStep,HX.out,hq];simp [hd,hlt2,newer]))
         clear hq
         go_wp2_with (go_at_call 169;refine hcall.mono ?_;rintro e w1 ⟨rfl,hb1⟩;have g4:=HW.out w1 j r2 (Below.then_ hB hb1) hj2;have kx1:=(hbx.ext hb1).cell;have zb1:=Nat.lt_of_lt_of_le hbr hb1.size;have zx1:=(hbx.ext hb1).lt)
         go_roundw
         case rel=>exact ⟨k+1,by omega,by go_num,by rw [HF.out] <;> rfl,Below.then_ hB hb1,hbx.ext hb1,hbf.ext hb1⟩
         case measure=>exact ms_
     ·have HF:=Lib.hid (HST.out s (by simp only [lastStep,HX.out,hq];simp [hd]))
      clear hq
      go_wp2_with (go_at_call 169;refine hcall.mono ?_;rintro e w1 ⟨rfl,hb1⟩)
      go_roundw
      case rel=>exact ⟨k+1,by omega,by go_num,by rw [HF.out] <;> rfl,Below.then_ hB hb1,hbx.ext hb1,hbf.ext hb1⟩
      case measure=>exact ms_
  ·obtain rfl:k=rn:=by omega
   go_wp2
   go_ret
   exact ⟨rfl,hB⟩
end Go.Proofs.YtoiompoapikkbaaGreat
/- Layer 2: where a leaf stays: the program's and the reference's, plain. -/
namespace Go.Proofs.YtoiompoapikkbaaGreat
open Go.RowKit Go.Maps
def lastV (M:List ((Int × Int) × Nat)) (R:List Rcp) (leaf:Int):Option (Nat × Int)→Int × Int × Int
 | none=>(0,-1,-1)
 | some p=>match R[p.1]? with
   | none=>(0,-1,-1)
   | some r=>(r.bor,backI M r.src leaf,p.2)
theorem stay_last (R:List Rcp) (kn pap leaf day:Int) (M:List ((Int × Int) × Nat)) (h0:∀ r∈R,0≤r.day):∀ k,stayL M leaf day (((R.take k).filter fun r=>countsB r.kn r.un kn).filter (isOfB pap leaf))=lastV M R leaf (lastK kn pap leaf day R k)
 | 0=>by simp [stayL,lastK,lastV]
 | k+1=>by
   have ih:=stay_last R kn pap leaf day M h0 k
   rw [lastK_succ,lastStep]
   cases hr:R[k]? with
   | none =>
     have hl:R.length≤k:=by simpa using hr
     have e:R.take (k+1)=R.take k:=by rw [List.take_of_length_le (by omega),List.take_of_length_le hl]
     rw [e]
     exact ih
   | some r =>
     rw [take_snoc_some hr,List.filter_append,List.filter_append]
     dsimp only
     have hd0:=h0 r (List.mem_of_getElem? hr)
     cases hc:countsB r.kn r.un kn with
     | false=>simpa [hc] using ih
     | true =>
       cases ho:isOfB pap leaf r with
       | false=>simpa [hc,ho] using ih
       | true =>
         have e:(([r].filter fun r=>countsB r.kn r.un kn).filter (isOfB pap leaf))=[r]:=by simp [hc,ho]
         rw [e,stayL_snoc,ih]
         cases hL:lastK kn pap leaf day R k with
         | none =>
           by_cases h1:r.day≤day
           ·rw [if_pos (by simp [h1,newer])]
            have h2:¬ (day<r.day∨r.day≤((0:Int),(-1:Int),(-1:Int)).2.2):=by dsimp only;omega
            show stayStep M leaf day (0,-1,-1) r=_
            rw [stayStep,if_neg h2]
            simp [lastV,hr]
           ·rw [if_neg (by simp [h1])]
            have h2:day<r.day∨r.day≤((0:Int),(-1:Int),(-1:Int)).2.2:=by dsimp only;omega
            show stayStep M leaf day (0,-1,-1) r=_
            rw [stayStep,if_pos h2]
            rfl
         | some p =>
           obtain ⟨j,d⟩:=p
           obtain ⟨_,r2,hr2,hd2⟩:=lastK_at hL
           have e2:lastV M R leaf (some (j,d))=(r2.bor,backI M r2.src leaf,d):=by simp [lastV,hr2]
           rw [e2]
           by_cases h1:r.day≤day∧d<r.day
           ·rw [if_pos (by simp [h1.1,h1.2,newer])]
            have h2:¬ (day<r.day∨r.day≤(r2.bor,backI M r2.src leaf,d).2.2):=by dsimp only;omega
            rw [stayStep,if_neg h2]
            simp [lastV,hr]
           ·rw [if_neg (by simp only [newer,Bool.true_and,Bool.and_eq_true,decide_eq_true_eq];exact h1)]
            have h2:day<r.day∨r.day≤(r2.bor,backI M r2.src leaf,d).2.2:=by dsimp only;omega
            rw [stayStep,if_pos h2,e2]
theorem stayF_last (l:Led) (kn pap leaf day:Int) (M:List ((Int × Int) × Nat)) (h0:∀ r∈l.rc,0≤r.day):stayF M (cntR l kn) pap leaf day=lastV M l.rc leaf (lastK kn pap leaf day l.rc l.rc.length):=by
 have h:=stay_last l.rc kn pap leaf day M h0 l.rc.length
 rw [List.take_of_length_le (Nat.le_refl _)] at h
 exact h
theorem back_rt (l:Led) (kn src leaf:Int):backI (opnL l kn).M src leaf=ixI (rtIx (opnL l kn).T l.rt src leaf):=by
 rw [backI,opn_rt]
 cases rtIx (opnL l kn).T l.rt src leaf <;> rfl
end Go.Proofs.YtoiompoapikkbaaGreat
/- Layer 2: double receipts: the program's and the reference's, plain. -/
namespace Go.Proofs.YtoiompoapikkbaaGreat
open Go.RowKit Go.Maps
theorem opn_P (kn:Int) (R:List Rcp) (rt:List Rtn):∀ k,k≤rt.length→∀ j t,(opnK kn R rt rt.length k).T[j]?=some true→rt[j]?=some t→∃ r,findR R t.rcp=some r∧((opnK kn R rt rt.length k).P.getD j (0,0)).1=max t.lo (r.day+1)
 | 0,_,j,t,h,_=>by
   rw [opnK_zero] at h
   obtain ⟨hl,h2⟩:=List.getElem?_eq_some_iff.1 h
   simp at h2
 | k+1,hk,j,t,h,htj=>by
   have ih:=opn_P kn R rt k (by omega)
   obtain ⟨_,i2⟩:=opn_inv kn R rt k (by omega)
   have hP:=(opnK_len kn R rt rt.length k).2
   obtain ⟨u,hu⟩:∃ u,rt[k]?=some u:=⟨rt[k],List.getElem?_eq_getElem (by omega)⟩
   rw [opnK_succ hu] at h ⊢
   generalize opnK kn R rt rt.length k=S at ih i2 hP h ⊢
   have hk2:=i2 k (Nat.le_refl _) (by omega)
   unfold readS at h ⊢
   cases hr:readR kn R S.M u with
   | none =>
     rw [hr] at h
     have hne:k≠j:=by
      rintro rfl
      rw [show (S.T)[k]?=some true from h] at hk2
      cases hk2
     obtain ⟨r,h1,h2⟩:=ih j t h htj
     refine ⟨r,h1,?_⟩
     show ((S.P.set k (0,100000)).getD j (0,0)).1=_
     rw [List.getD_eq_getElem?_getD,List.getElem?_set_ne hne,← List.getD_eq_getElem?_getD]
     exact h2
   | some r =>
     rw [hr] at h
     show ∃ r',_∧((((S.P.set k (0,100000)).set k (max u.lo (r.day+1),hiK R r u.hi u.lv)).getD j (0,0)).1=_)
     by_cases hkj:k=j
     ·subst hkj
      obtain rfl:t=u:=Option.some.inj (htj.symm.trans hu)
      refine ⟨r,?_,?_⟩
      ·unfold readR at hr
       split at hr
       ·cases hr
       ·rename_i r' hf
        split at hr
        ·rw [hf,hr]
        ·cases hr
      ·rw [List.getD_eq_getElem?_getD,List.getElem?_set_self (by simp;omega)]
       rfl
     ·have h3:S.T[j]?=some true:=by
       have h4:(S.T.set k true)[j]?=some true:=h
       rwa [List.getElem?_set_ne hkj] at h4
      obtain ⟨r2,h1,h2⟩:=ih j t h3 htj
      refine ⟨r2,h1,?_⟩
      rw [List.getD_eq_getElem?_getD,List.getElem?_set_ne hkj,List.getElem?_set_ne hkj,← List.getD_eq_getElem?_getD]
      exact h2
def refOut (l:Led) (T:List Bool) (kn:Int) (x y:Rcp) (f:Int):Bool:=(countsB x.kn x.un kn && isOfB x.pap f x) && ((countsB y.kn y.un kn && isOfB x.pap f y) && (decide (x.day=y.day) || match rtIx T l.rt x.src f with
 | none=>true
 | some k=>match l.rt[k]? with
   | none=>true
   | some t=>decide (y.day<max t.lo (x.day+1))))
def refD (l:Led) (T:List Bool) (kn:Int) (x y:Rcp):Bool:=if y.day<x.day then y.lv.any (refOut l T kn y x) else x.lv.any (refOut l T kn x y)
theorem rt_some {T:List Bool} {rt:List Rtn} {s x:Int} {k:Nat} (h:rtIx T rt s x=some k):T[k]?=some true∧∃ t,rt[k]?=some t∧t.rcp=s∧x∈t.lv:=by
 obtain ⟨hl,hp,_⟩:=List.findIdx?_eq_some_iff_getElem.1 h
 rw [List.getElem_zip] at hp
 simp at hl
 simp only [rtAt,Bool.and_eq_true,decide_eq_true_eq] at hp
 have h1:k<T.length:=by omega
 have h2:k<rt.length:=by omega
 exact ⟨by rw [List.getElem?_eq_getElem h1,hp.1],_,List.getElem?_eq_getElem h2,hp.2.1,hp.2.2⟩
theorem out_ref (l:Led) (kn:Int) (x y:Rcp) (f:Int) (hx:countsB x.kn x.un kn=true) (hy:countsB y.kn y.un kn=true) (hf:f∈x.lv) (hp:x.pap=y.pap) (hu:findR (cntR l kn) x.src=some x):outB (opnL l kn).M (opnL l kn).P x y f=refOut l (opnL l kn).T kn x y f:=by
 rw [outB,backB,opn_rt,refOut,hx,hy]
 have h1:isOfB x.pap f x=true:=by simp [isOfB,hf]
 have h2:isOfB x.pap f y=decide (f∈y.lv):=by simp [isOfB,hp]
 rw [h1,h2]
 cases h:rtIx (opnL l kn).T l.rt x.src f with
 | none=>simp
 | some k =>
   obtain ⟨hT,t,ht,hts,_⟩:=rt_some h
   obtain ⟨r,hr,hq⟩:=opn_P kn (cntR l kn) l.rt l.rt.length (Nat.le_refl _) k t hT ht
   rw [hts,hu] at hr
   obtain rfl:=Option.some.inj hr
   have hq2:((opnL l kn).P.getD k (0,0)).1=max t.lo (x.day+1):=hq
   simp only [hq2,ht,Bool.true_and]
   congr 1
   by_cases he:x.day=y.day
   ·simp [he];omega
   ·simp only [he,decide_false,Bool.false_or]
    rw [← decide_not]
    congr 1
    rw [Int.not_le]
theorem dbl_ref (l:Led) (kn:Int) (x y:Rcp) (hx:countsB x.kn x.un kn=true) (hy:countsB y.kn y.un kn=true) (hu:findR (cntR l kn) x.src=some x) (hv:findR (cntR l kn) y.src=some y):dblB (opnL l kn).M (opnL l kn).P x y=refD l (opnL l kn).T kn x y:=by
 have hne:∀ (a b:Rcp),a.pap≠b.pap→a.lv.any (refOut l (opnL l kn).T kn a b)=false:=fun a b hab=>by
  rw [List.any_eq_false]
  intro f _
  have:isOfB a.pap f b=false:=by simp [isOfB];intro h;exact absurd h.symm hab
  simp [refOut,this]
 have hany:∀ (a b:Rcp),countsB a.kn a.un kn=true→countsB b.kn b.un kn=true→a.pap=b.pap→findR (cntR l kn) a.src=some a→a.lv.any (outB (opnL l kn).M (opnL l kn).P a b)=a.lv.any (refOut l (opnL l kn).T kn a b):=fun a b ha hb hab hua=>by
  rw [Bool.eq_iff_iff,List.any_eq_true,List.any_eq_true]
  constructor
  ·rintro ⟨f,hf,h⟩
   exact ⟨f,hf,by rw [← out_ref l kn a b f ha hb hf hab hua];exact h⟩
  ·rintro ⟨f,hf,h⟩
   exact ⟨f,hf,by rw [out_ref l kn a b f ha hb hf hab hua];exact h⟩
 rw [dblB,refD]
 by_cases hp:x.pap=y.pap
 ·rw [if_pos hp]
  split
  ·exact hany y x hy hx hp.symm hv
  ·exact hany x y hx hy hp hu
 ·rw [if_neg hp]
  split
  ·exact (hne y x (fun h=>hp h.symm)).symm
  ·exact (hne x y hp).symm
end Go.Proofs.YtoiompoapikkbaaGreat
/- Layer 2: days narrowed by sights: the program's and the reference's, plain. -/
namespace Go.Proofs.YtoiompoapikkbaaGreat
open Go.RowKit Go.Maps
def refN (l:Led) (T:List Bool) (kn:Int) (D:List (Int × Int)) (s:Sgt):List (Int × Int) × Bool:=match lastK kn s.pap s.leaf s.day l.rc l.rc.length with
 | none=>(D,decide (s.per=0))
 | some p=>match l.rc[p.1]? with
   | none=>(D,decide (s.per=0))
   | some x=>match rtIx T l.rt x.src s.leaf with
     | none=>(D,decide (s.per=x.bor))
     | some k=>if s.per=x.bor then (D.set k (max (D.getD k (0,0)).1 (s.day+1),(D.getD k (0,0)).2),decide (max (D.getD k (0,0)).1 (s.day+1)≤(D.getD k (0,0)).2))
       else if s.per=0 then (D.set k ((D.getD k (0,0)).1,min (D.getD k (0,0)).2 s.day),decide ((D.getD k (0,0)).1≤min (D.getD k (0,0)).2 s.day))
       else (D,false)
def refL (l:Led) (T:List Bool) (kn:Int):List Sgt→List (Int × Int)→List (Int × Int) × Bool
 | [],D=>(D,true)
 | s :: ss,D=>((refL l T kn ss (refN l T kn D s).1).1,(refN l T kn D s).2 && (refL l T kn ss (refN l T kn D s).1).2)
theorem nar_ref (l:Led) (kn:Int) (h0:∀ r∈l.rc,0≤r.day) (hb:∀ r∈l.rc,r.bor≠0) (D:List (Int × Int)) (s:Sgt):narS (staySg (opnL l kn).M (cntR l kn) s) D s.per s.day=if (refN l (opnL l kn).T kn D s).2=true then some (refN l (opnL l kn).T kn D s).1 else none:=by
 rw [staySg,stayF_last l kn _ _ _ _ h0,refN]
 cases hL:lastK kn s.pap s.leaf s.day l.rc l.rc.length with
 | none =>
   simp only [lastV,narS]
   by_cases hp:s.per=0
   ·simp [hp]
   ·simp [hp]
 | some p =>
   obtain ⟨j,d⟩:=p
   obtain ⟨_,x,hx,_⟩:=lastK_at hL
   have hbx:=hb x (List.mem_of_getElem? hx)
   simp only [lastV,hx,back_rt]
   cases hk:rtIx (opnL l kn).T l.rt x.src s.leaf with
   | none =>
     simp only [ixI,narS]
     by_cases hp:s.per=x.bor
     ·simp [hp]
     ·simp [hp]
   | some k =>
     have h1:¬ ((k:Int)<0):=by omega
     simp only [ixI,narS,h1,or_false,Int.toNat_natCast]
     by_cases hp:s.per=x.bor
     ·have hn0:s.per≠0:=by rw [hp];exact hbx
      simp only [hp,ne_eq,not_true_eq_false,false_and,if_false,if_true,narD,hbx,decide_eq_true_eq]
      split <;> split <;> first | rfl | omega
     ·by_cases h2:s.per=0
      ·have h3:¬ ((0:Int)=x.bor):=fun h=>hbx h.symm
       simp only [h2,ne_eq,h3,not_false_eq_true,not_true_eq_false,and_false,if_false,if_true,narD,decide_eq_true_eq]
       split <;> split <;> first | rfl | omega
      ·simp [hp,h2]
theorem nar_all (l:Led) (kn:Int) (h0:∀ r∈l.rc,0≤r.day) (hb:∀ r∈l.rc,r.bor≠0):∀ (ss:List Sgt) (D:List (Int × Int)),narL (opnL l kn).M (cntR l kn) ss D=if (refL l (opnL l kn).T kn ss D).2=true then some (refL l (opnL l kn).T kn ss D).1 else none
 | [],D=>rfl
 | s :: ss,D=>by
   rw [narL,nar_ref l kn h0 hb,refL]
   cases h:(refN l (opnL l kn).T kn D s).2 with
   | false=>rfl
   | true=>exact nar_all l kn h0 hb ss _
end Go.Proofs.YtoiompoapikkbaaGreat
/- Layer 2: the sights that count, by their indices, plain. -/
namespace Go.Proofs.YtoiompoapikkbaaGreat
open Go.RowKit Go.Maps
theorem sgN_nth {S:List Sgt} {kn:Int}:∀ {k:Nat},k≤S.length→(sgN S kn k).map (fun i=>S[i.toNat]?)=(((S.take k).filter fun s=>countsB s.kn s.un kn).map some)
 | 0,_=>by simp [sgN]
 | k+1,hk=>by
   obtain ⟨s,hs⟩:∃ s,S[k]?=some s:=⟨S[k],List.getElem?_eq_getElem (by omega)⟩
   rw [sgN_succ hs,List.map_append,sgN_nth (by omega),take_snoc_some hs,List.filter_append,List.map_append]
   congr 1
   cases hc:countsB s.kn s.un kn <;> simp [hc,hs]
theorem sgN_cnt (l:Led) (kn:Int):(sgN l.sg kn l.sg.length).map (fun i=>l.sg[i.toNat]?)=(cntS l kn).map some:=by
 rw [sgN_nth (Nat.le_refl _),List.take_of_length_le (Nat.le_refl _)]
 rfl
end Go.Proofs.YtoiompoapikkbaaGreat
/- Layer 2: the sights of some sources, plain. -/
namespace Go.Proofs.YtoiompoapikkbaaGreat
open Go.RowKit Go.Maps
end Go.Proofs.YtoiompoapikkbaaGreat
/- Layer 2: an Ask that comes in by value. -/
namespace Go.Proofs.YtoiompoapikkbaaGreat
open Go.ChangeShapes Go.WideShapes Go.ChangeAt Go.RowKit Go.Deep Go.Joins Go.Maps
theorem c6_ask2:Tryz.prog.cellsOf 62=6:=by kernel_rfl
theorem c2_folA:Tryz.prog.cellsOf 60=2:=by kernel_rfl
theorem lenx6 {α:Type}:∀ {l:List α},l.length=6→∃ a0 a1 a2 a3 a4 a5,l=[a0,a1,a2,a3,a4,a5]
 | [a0,a1,a2,a3,a4,a5],_=>⟨a0,a1,a2,a3,a4,a5,rfl⟩
section
variable {H:Type} {enc:TypeId × Value→H} {w:World} {base:Nat} {spare:Nat→Bool} {held:Bool} {fuel:Nat} {cs:List Value} {x:DataW H × List MemPlace}
theorem intw_of (h:DataW.trod enc Tryz.prog w base spare held fuel 3 cs=some x):∃ a,cs=[.int .i64 a]∧(Lit.int .i64 a).wf=true:=by
 obtain ⟨n,h1,_,hw⟩:=DataW.trod_int Tryz.underlying3 h
 exact ⟨n,h1,hw⟩
theorem folw_of (h:DataW.trod enc Tryz.prog w base spare held fuel 60 cs=some x):∃ a b,cs=[.int .i64 a,.int .i64 b]∧(Lit.int .i64 b).wf=true:=by
 obtain ⟨xs,n,_,_,hl,hx,hf⟩:=DataW.trod_struct Tryz.underlying60 h
 rw [c2_folA] at hl
 obtain ⟨y0,e0⟩:=some_at hx (i:=0) (by decide)
 obtain ⟨y1,e1⟩:=some_at hx (i:=1) (by decide)
 obtain ⟨c0,c1,rfl⟩:=len2 hl
 obtain ⟨a,ha⟩:=int_of ((hf 0 _ rfl).trans e0)
 obtain ⟨b,hb,hw⟩:=intw_of ((hf 1 _ rfl).trans e1)
 simp [c1_int] at ha hb
 exact ⟨a,b,by rw [ha,hb],hw⟩
end
section
variable {H:Type} {enc:TypeId × Value→H} {w:World} {base:Nat} {spare:Nat→Bool} {held:Bool} {r:Reach} {b0:Nat} {v:Value} {d:DataW H} {p:List MemPlace}
set_option maxRecDepth 100000 in
set_option maxHeartbeats 1000000 in
theorem ask2_of (hv:Value.okWide Tryz.prog w r b0 62 v) (h:DataW.Trod enc Tryz.prog w base spare held 62 v d p):∃ a0 a1 a2 a3 a4 a5:Int,v=.agg #[.int .i64 a0,.int .i64 a1,.int .i64 a2,.int .i64 a3,.int .i64 a4,.int .i64 a5]∧(Lit.int .i64 a3).wf=true:=by
 obtain ⟨cs,rfl,_⟩:=okWide_struct Tryz.underlying62 hv
 obtain ⟨fuel,hf0⟩:=h
 simp only [Value.cells] at hf0
 obtain ⟨xs,n,_,_,hl,hx,hf⟩:=DataW.trod_struct Tryz.underlying62 hf0
 rw [c6_ask2] at hl
 obtain ⟨y0,e0⟩:=some_at hx (i:=0) (by decide)
 obtain ⟨y1,e1⟩:=some_at hx (i:=1) (by decide)
 obtain ⟨y2,e2⟩:=some_at hx (i:=2) (by decide)
 obtain ⟨y3,e3⟩:=some_at hx (i:=3) (by decide)
 obtain ⟨y4,e4⟩:=some_at hx (i:=4) (by decide)
 obtain ⟨c0,c1,c2,c3,c4,c5,hcs⟩:=lenx6 hl
 rw [hcs] at hf
 obtain ⟨a0,h0⟩:=int_of ((hf 0 _ rfl).trans e0)
 obtain ⟨a1,h1⟩:=int_of ((hf 1 _ rfl).trans e1)
 obtain ⟨a2,a3,h2,hw⟩:=folw_of ((hf 2 _ rfl).trans e2)
 obtain ⟨a4,h4⟩:=int_of ((hf 3 _ rfl).trans e3)
 obtain ⟨a5,h5⟩:=int_of ((hf 4 _ rfl).trans e4)
 simp [c1_int,c2_folA] at h0 h1 h2 h4 h5
 refine ⟨a0,a1,a2,a3,a4,a5,?_,hw⟩
 congr 1
 apply Array.toList_inj.1
 rw [hcs]
 simp [h0,h1,h2,h4,h5]
end
end Go.Proofs.YtoiompoapikkbaaGreat
/- view.same: whether two views tell the same of a lock. -/
namespace Go.Proofs.YtoiompoapikkbaaGreat
open Go.RowKit
attribute [local go_sem] Oper.semAt_some
end Go.Proofs.YtoiompoapikkbaaGreat
/- Structs with slices that come in by value: Asked, Opening. -/
namespace Go.Proofs.YtoiompoapikkbaaGreat
open Go.ChangeShapes Go.WideShapes Go.ChangeAt Go.RowKit Go.Deep Go.Joins
theorem c1_ints:Tryz.prog.cellsOf 30=1:=by kernel_rfl
section
variable {H:Type} {enc:TypeId × Value→H} {w:World} {base:Nat} {spare:Nat→Bool} {held:Bool} {r:Reach} {b0:Nat} {v:Value} {d:DataW H} {p:List MemPlace}
theorem ints_cell {fuel:Nat} {cs:List Value} {x:DataW H × List MemPlace} (h:DataW.trod enc Tryz.prog w base spare held fuel 30 cs=some x):∃ A n c,cs=[.slice A n c]∧n≤c∧c≤maxLen∧∃ l:List Int,Is w w.heap.size A n l:=by
 have h0:=h
 rcases open_slice Tryz.underlying30 h with ⟨rfl,_⟩ | ⟨a,len,cap,m,nn,D,Pl,rfl,_⟩
 ·exact ⟨none,0,0,rfl,Nat.le_refl _,Nat.zero_le _,[],Rd.nil_⟩
 ·obtain ⟨h1,h2,h3⟩:=ints_of (A:=some a) (n:=len) (c:=cap) (by simpa [Value.cells] using h0)
  exact ⟨some a,len,cap,rfl,h1,h2,h3⟩
end
end Go.Proofs.YtoiompoapikkbaaGreat
