/- Layer 2 of the texts that LoanPlaces takes: Pauq. -/
import Derived.Test.YtoiompoapikkbaaGreatPasq
set_option linter.unusedVariables false
set_option linter.unusedSimpArgs false
set_option maxHeartbeats 16000000
namespace Go.Proofs.YtoiompoapikkbaaGreat
open Go.RowKit Go.Maps
def rtAt (src leaf:Int) (p:Bool × Rtn):Bool:=p.1 && (decide (p.2.rcp=src) && decide (leaf∈p.2.lv))
def rtIx (T:List Bool) (rt:List Rtn) (src leaf:Int):Option Nat:=(List.zip T rt).findIdx? (rtAt src leaf)
set_option maxRecDepth 10000 in
theorem r_returnOf (l:Led) (v:Vw) (T:List Bool) (i:Nat) (r:Rcp) (leaf:Int) (w:World) (hn:v.x.rn≤1000000) (htn:v.x.tn≤1000000) (hTt:v.Tn=v.x.tn) (hd:LedIn w w.heap.size v.x l) (hT:Sq QB 1 w w.heap.size v.TA v.Tn T) (hr:l.rc[i]?=some r) :
 Calls Tryz.prog 130 #[vwV v,.int .i64 i,.int .i64 leaf] w fun e w'=>e=.returned (.int .i64 (ixI (rtIx T l.rt r.src leaf)))∧Below w.heap.size w w':=by
 obtain ⟨⟨pA,pn,pc,rA,rn,rc,tA,tn,tc,sA,sn,sc⟩,kn,TA,Tn,Tc,DA,Dn,Dc⟩:=v
 obtain rfl:Tn=tn:=hTt
 show Calls _ _ #[.agg #[.slice pA pn pc,.slice rA rn rc,.slice tA Tn tc,.slice sA sn sc,.int .i64 kn,.slice TA Tn Tc,.slice DA Dn Dc],_,_] _ _
 have HR:Hid (Rcs w w.heap.size rA rn l.rc):=by show Sq _ _ _ _ _ _ _;exact hd.r
 have HT:Hid (Rts w w.heap.size tA Tn l.rt):=by show Sq _ _ _ _ _ _ _;exact hd.t
 have HB:Hid (Sq QB 1 w w.heap.size TA Tn T):=by show Sq _ _ _ _ _ _ _;exact hT
 have hrn:rn≤1000000:=hn
 have hTn:Tn≤1000000:=htn
 have hi:i<rn:=by rw [← HR.out.len];exact (List.getElem?_eq_some_iff.1 hr).1
 obtain ⟨br,or_,r',rfl,hbr,hx,A1,n1,c1,⟨hr0,_,_,_,_,_,_⟩,_,_,_⟩:=HR.out.at_ hi
 obtain rfl:r=r':=Option.some.inj (hr.symm.trans hx)
 clear hd hn hr hx hT htn
 obtain ⟨q,hq⟩:∃ q,rtIx T l.rt r.src leaf=q:=⟨_,rfl⟩
 rw [hq]
 have HQ:=hd_ hq
 clear hq
 go_enter Tryz.func130,Tryz.ntmps130
 go_wp2
 go_loopw [7] (fun i wr=>∃ k:Nat,k≤Tn∧i=.int .i64 k∧((List.zip T l.rt).take k).any (rtAt r.src leaf)=false∧Below w.heap.size w wr∧BoxA wr w.heap.size 127 #[.slice pA pn pc,.slice (some ⟨br,or_,none⟩) rn rc,.slice tA Tn tc,.slice sA sn sc,.int .i64 kn,.slice TA Tn Tc,.slice DA Dn Dc]) (fun i _=>Tn - (intOf i).toNat)
 case atStart=>exact ⟨0,by omega,rfl,rfl,by exact bel_,BoxA.new _ _ _⟩
 case round =>
  obtain ⟨k,hk,rfl,hany,hB,hbx⟩:=hrel
  have HA:=hd_ hany
  clear hany
  have hs0:=hB.size
  have kx:=hbx.cell
  have zx:=hbx.lt
  have hrw:wr.cell? ⟨br,or_+i*7,none⟩=some (.int .i64 r.src):=(hB.cell (p:=⟨br,_,none⟩) hbr).trans hr0
  have hbrw:br<wr.heap.size:=by omega
  by_cases hlt:k<Tn
  ·obtain ⟨bt,ot,tl,rfl,hbt,htl,q0⟩:=(Sq.ext HB.out abB hB lr_).at_ hlt
   obtain ⟨b,o,t,rfl,hb,hx,A2,n2,c2,⟨h0,h1,h2,h3,h4,h5,h6,h7⟩,hi1,hc1,hm1⟩:=(Sq.ext HT.out abT hB lr_).at_ hlt
   have q0:wr.cell? ⟨bt,ot+k,none⟩=some (.bool tl):=by have h:wr.cell? ⟨bt,ot+k*1,none⟩=some (.bool tl):=q0;rwa [Nat.mul_one] at h
   have hz:(List.zip T l.rt)[k]?=some (tl,t):=by rw [List.getElem?_zip_eq_some];exact ⟨htl,hx⟩
   have HZ:=hd_ hz
   have hn2:n2≤9223372036854775807:=by have:maxLen≤9223372036854775807:=(by decide);omega
   have HI:Hid (Is wr wr.heap.size A2 n2 t.lv):=by show Is _ _ _ _ _;exact Is.more hi1 (by omega)
   have hbtw:bt<wr.heap.size:=by omega
   have hbw:b<wr.heap.size:=by omega
   clear hz htl hx hi1
   cases tl with
   | false =>
     have HF:Hid (((List.zip T l.rt).take (k+1)).any (rtAt r.src leaf)=false):=by show _=_;rw [any_take_succ2 HZ.out,HA.out];rfl
     go_wp2_with fail
     (refine rg_ ?_;(repeat (go_big_quiet_step (fail)));refine qn_ fun w1 hb1 hc1 hf1=>?_)
     go_wp2_with fail
     go_roundw
     case rel=>exact ⟨k+1,by omega,by go_num,HF.out,bt_ hB hb1,hbx.ext hb1⟩
     case measure=>exact ms_
   | true =>
     by_cases he:t.rcp=r.src
     ·have hed:(t.rcp == r.src)=true:=by simpa using he
      have HE:=hd_ he
      clear he
      cases hm:decide (leaf∈t.lv) with
      | true =>
        have ho:q=some k:=by rw [← HQ.out];exact ix_found HZ.out (by simp [rtAt,HE.out];simpa using hm) HA.out
        subst ho
        have HM:=hd_ hm
        clear hm
        go_wp2_with fail
        (refine rg_ ?_;(repeat (go_big_quiet_step ((first | (go_at_call_of 65 (Value.slice A2 n2 c2);exact Calls.grow_all (fun g=>r_Has2_v t.lv leaf true A2 n2 c2 g.1 hn2 (HI.out.now g.2) HM.out))))));refine qn_ fun w1 hb1 hc1 hf1=>?_)
        go_wp2_with fail
        go_ret
        exact ⟨rfl,bt_ hB hb1⟩
      | false =>
        have HF:Hid (((List.zip T l.rt).take (k+1)).any (rtAt r.src leaf)=false):=by show _=_;rw [any_take_succ2 HZ.out,HA.out];simp only [rtAt,hm];simp
        have HM:=hd_ hm
        clear hm
        go_wp2_with fail
        (refine rg_ ?_;(repeat (go_big_quiet_step ((first | (go_at_call_of 65 (Value.slice A2 n2 c2);exact Calls.grow_all (fun g=>r_Has2_v t.lv leaf false A2 n2 c2 g.1 hn2 (HI.out.now g.2) HM.out))))));refine qn_ fun w1 hb1 hc1 hf1=>?_)
        go_wp2_with fail
        go_roundw
        case rel=>exact ⟨k+1,by omega,by go_num,HF.out,bt_ hB hb1,hbx.ext hb1⟩
        case measure=>exact ms_
     ·have hed:(t.rcp == r.src)=false:=by simpa using he
      have HF:Hid (((List.zip T l.rt).take (k+1)).any (rtAt r.src leaf)=false):=by show _=_;rw [any_take_succ2 HZ.out,HA.out];simp [rtAt,he]
      clear he
      go_wp2_with fail
      (refine rg_ ?_;(repeat (go_big_quiet_step (fail)));refine qn_ fun w1 hb1 hc1 hf1=>?_)
      go_wp2_with fail
      go_roundw
      case rel=>exact ⟨k+1,by omega,by go_num,HF.out,bt_ hB hb1,hbx.ext hb1⟩
      case measure=>exact ms_
  ·have hkn:Hid (k=Tn):=by show _=_;omega
   have ho:q=none:=by
    have:=HA.out
    rw [List.take_of_length_le (by rw [List.length_zip,HB.out.len,HT.out.len,hkn.out];simp)] at this
    rw [← HQ.out]
    exact ix_none this
   subst ho
   go_wp2
   go_ret
   exact ⟨rfl,hB⟩
theorem r_isOf_v (l:Led) (v:Vw) (i:Nat) (r:Rcp) (pap leaf:Int) (q:Bool) (w:World) (hn:v.x.rn≤1000000) (hd:LedIn w w.heap.size v.x l) (hr:l.rc[i]?=some r) (hq:(countsB r.kn r.un v.kn && isOfB pap leaf r)=q) :
 Calls Tryz.prog 169 #[vwV v,.int .i64 i,.agg #[.int .i64 pap,.int .i64 leaf]] w fun e w'=>e=.returned (.bool q)∧Below w.heap.size w w':=hq ▸ r_isOf l v i r pap leaf w hn hd hr
def newer (s:Option (Nat × Int)) (day:Int):Bool:=match s with
 | none=>true
 | some p=>decide (p.2<day)
def lastStep (kn pap leaf day:Int) (R:List Rcp) (s:Option (Nat × Int)) (i:Nat):Option (Nat × Int):=match R[i]? with
 | none=>s
 | some r=>if ((countsB r.kn r.un kn && isOfB pap leaf r) && (decide (r.day≤day) && newer s r.day))=true then some (i,r.day) else s
def lastK (kn pap leaf day:Int) (R:List Rcp) (k:Nat):Option (Nat × Int):=(List.range k).foldl (lastStep kn pap leaf day R) none
theorem lastK_succ (kn pap leaf day:Int) (R:List Rcp) (k:Nat):lastK kn pap leaf day R (k+1)=lastStep kn pap leaf day R (lastK kn pap leaf day R k) k:=by
 rw [lastK,List.range_succ,List.foldl_append];rfl
theorem lastK_at {kn pap leaf day:Int} {R:List Rcp}:∀ {k:Nat} {j:Nat} {d:Int},lastK kn pap leaf day R k=some (j,d)→j<k∧∃ r,R[j]?=some r∧r.day=d
 | 0,j,d,h=>by simp [lastK] at h
 | k+1,j,d,h=>by
   rw [lastK_succ,lastStep] at h
   cases hr:R[k]? with
   | none =>
     rw [hr] at h
     obtain ⟨h1,h2⟩:=lastK_at h
     exact ⟨by omega,h2⟩
   | some r =>
     rw [hr] at h
     simp only at h
     split at h
     ·simp only [Option.some.injEq,Prod.mk.injEq] at h
      obtain ⟨rfl,rfl⟩:=h
      exact ⟨by omega,r,hr,rfl⟩
     ·obtain ⟨h1,h2⟩:=lastK_at h
      exact ⟨by omega,h2⟩
def lastI:Option (Nat × Int)→Int
 | some p=>p.1
 | none=>-1
set_option maxRecDepth 10000 in
theorem r_last (l:Led) (v:Vw) (pap leaf day:Int) (w:World) (hn:v.x.rn≤1000000) (hd:LedIn w w.heap.size v.x l) :
 Calls Tryz.prog 173 #[vwV v,.agg #[.int .i64 pap,.int .i64 leaf],.int .i64 day] w fun e w'=>e=.returned (.int .i64 (lastI (lastK v.kn pap leaf day l.rc l.rc.length)))∧Below w.heap.size w w':=by
 obtain ⟨⟨pA,pn,pc,rA,rn,rc,tA,tn,tc,sA,sn,sc⟩,kn,TA,Tn,Tc,DA,Dn,Dc⟩:=v
 show Calls _ _ #[.agg #[.slice pA pn pc,.slice rA rn rc,.slice tA tn tc,.slice sA sn sc,.int .i64 kn,.slice TA Tn Tc,.slice DA Dn Dc],_,_] _ (fun e w'=>e=.returned (.int .i64 (lastI (lastK kn pap leaf day l.rc l.rc.length)))∧Below w.heap.size w w')
 have HI:Hid (∀ (W:World) (i:Nat) (r:Rcp) (q:Bool),Below w.heap.size w W→l.rc[i]?=some r→(countsB r.kn r.un kn && isOfB pap leaf r)=q→Calls Tryz.prog 169 #[.agg #[.slice pA pn pc,.slice rA rn rc,.slice tA tn tc,.slice sA sn sc,.int .i64 kn,.slice TA Tn Tc,.slice DA Dn Dc],.int .i64 i,.agg #[.int .i64 pap,.int .i64 leaf]] W fun e w'=>e=.returned (.bool q)∧Below W.heap.size W w'):=by
  show ∀ _,_
  exact fun W i r q hW h1 h2=>r_isOf_v l ⟨⟨pA,pn,pc,rA,rn,rc,tA,tn,tc,sA,sn,sc⟩,kn,TA,Tn,Tc,DA,Dn,Dc⟩ i r pap leaf q W hn (hd.now hW) h1 h2
 have HR:Hid (Rcs w w.heap.size rA rn l.rc):=by show Sq _ _ _ _ _ _ _;exact hd.r
 have hrn:rn≤1000000:=hn
 rw [HR.out.len]
 clear hd hn
 go_enter Tryz.func173,Tryz.ntmps173
 go_wp2
 go_loopw [7,8] (fun u i wr=>∃ k:Nat,k≤rn∧i=.int .i64 k∧u=.int .i64 (lastI (lastK kn pap leaf day l.rc k))∧Below w.heap.size w wr∧BoxA wr w.heap.size 127 #[.slice pA pn pc,.slice rA rn rc,.slice tA tn tc,.slice sA sn sc,.int .i64 kn,.slice TA Tn Tc,.slice DA Dn Dc]∧BoxA wr (w.heap.size+1) 60 #[.int .i64 pap,.int .i64 leaf]) (fun _ i _=>rn - (intOf i).toNat)
 case atStart=>exact ⟨0,by omega,rfl,rfl,by exact bel_,(BoxA.new _ _ _).alloc _,by have h:=BoxA.new (w.alloc (.cells #[.slice pA pn pc,.slice rA rn rc,.slice tA tn tc,.slice sA sn sc,.int .i64 kn,.slice TA Tn Tc,.slice DA Dn Dc] 127)) 60 #[.int .i64 pap,.int .i64 leaf];simpa using h⟩
 case round =>
  obtain ⟨k,hk,rfl,rfl,hB,hbx,hbf⟩:=hrel
  have hs0:=hB.size
  have kx:=hbx.cell
  have zx:=hbx.lt
  have kf:=hbf.cell
  have zf:=hbf.lt
  by_cases hlt:k<rn
  ·obtain ⟨b,o,r,rfl,hb,hx,A1,n1,c1,⟨h0,h1,h2,h3,h4,h5,h6⟩,hi1,hc1,hm1⟩:=(Sq.ext HR.out abR hB lr_).at_ hlt
   have HX:=hd_ hx
   have hbr:b<wr.heap.size:=by omega
   have HS:=hd_ (lastK_succ kn pap leaf day l.rc k)
   have hrows:∀ (W:World) (j:Nat) (r2:Rcp),Below w.heap.size w W→l.rc[j]?=some r2→W.cell? ⟨b,o+j*7+4,none⟩=some (.int .i64 r2.day):=fun W j r2 hW hj=>by
    obtain ⟨b',o',y,e',_,hy,_,_,_,⟨_,_,_,_,g4,_,_⟩,_⟩:=(Sq.ext HR.out abR hW lr_).at_ (k:=j) (by rw [← HR.out.len];exact (List.getElem?_eq_some_iff.1 hj).1)
    obtain ⟨rfl,rfl⟩:b=b'∧o=o':=by simpa using e'
    obtain rfl:r2=y:=Option.some.inj (hj.symm.trans hy)
    exact g4
   have HW:=hd_ hrows
   clear hx hi1 hrows
   obtain ⟨s,hs⟩:∃ s,lastK kn pap leaf day l.rc k=s:=⟨_,rfl⟩
   have HSs:=hd_ hs
   rw [hs] at HS
   rw [hs]
   clear hs
   have hstep:∀ s':Option (Nat × Int),lastStep kn pap leaf day l.rc s k=s'→lastK kn pap leaf day l.rc (k+1)=s':=fun s' h=>HS.out.trans h
   have HST:=hd_ hstep
   clear hstep
   cases hq:(countsB r.kn r.un kn && isOfB pap leaf r) with
   | false =>
     have HF:=hd_ (HST.out s (by simp only [lastStep,HX.out,hq];rfl))
     have hcall:=HI.out wr k r false hB HX.out hq
     clear hq
     go_wp2_with (go_at_call 169;refine hcall.mono ?_;rintro e w1 ⟨rfl,hb1⟩)
     go_roundw
     case rel=>exact ⟨k+1,by omega,by go_num,by rw [HF.out] <;> rfl,bt_ hB hb1,hbx.ext hb1,hbf.ext hb1⟩
     case measure=>exact ms_
   | true =>
     have hcall:=HI.out wr k r true hB HX.out hq
     by_cases hd:r.day≤day
     ·cases s with
      | none =>
        have HF:=hd_ (HST.out (some (k,r.day)) (by simp only [lastStep,HX.out,hq];simp [hd,newer]))
        clear hq
        simp only [lastI]
        go_wp2_with (go_at_call 169;refine hcall.mono ?_;rintro e w1 ⟨rfl,hb1⟩)
        go_roundw
        case rel=>exact ⟨k+1,by omega,by go_num,by rw [HF.out] <;> rfl,bt_ hB hb1,hbx.ext hb1,hbf.ext hb1⟩
        case measure=>exact ms_
      | some p =>
        obtain ⟨j,d⟩:=p
        obtain ⟨hjk,r2,hj2,hd2⟩:=lastK_at HSs.out
        subst hd2
        simp only [lastI]
        have hmx:max (j:Int) 0=(j:Int):=by omega
        by_cases hlt2:r2.day<r.day
        ·have HF:=hd_ (HST.out (some (k,r.day)) (by simp only [lastStep,HX.out,hq];simp [hd,hlt2,newer]))
         clear hq
         go_wp2_with (go_at_call 169;refine hcall.mono ?_;rintro e w1 ⟨rfl,hb1⟩;have g4:=HW.out w1 j r2 (bt_ hB hb1) hj2;have kx1:=(hbx.ext hb1).cell;have zb1:=Nat.lt_of_lt_of_le hbr hb1.size;have zx1:=(hbx.ext hb1).lt)
         go_roundw
         case rel=>exact ⟨k+1,by omega,by go_num,by rw [HF.out] <;> rfl,bt_ hB hb1,hbx.ext hb1,hbf.ext hb1⟩
         case measure=>exact ms_
        ·have HF:=hd_ (HST.out (some (j,r2.day)) (by simp only [lastStep,HX.out,hq];simp [hd,hlt2,newer]))
         clear hq
         go_wp2_with (go_at_call 169;refine hcall.mono ?_;rintro e w1 ⟨rfl,hb1⟩;have g4:=HW.out w1 j r2 (bt_ hB hb1) hj2;have kx1:=(hbx.ext hb1).cell;have zb1:=Nat.lt_of_lt_of_le hbr hb1.size;have zx1:=(hbx.ext hb1).lt)
         go_roundw
         case rel=>exact ⟨k+1,by omega,by go_num,by rw [HF.out] <;> rfl,bt_ hB hb1,hbx.ext hb1,hbf.ext hb1⟩
         case measure=>exact ms_
     ·have HF:=hd_ (HST.out s (by simp only [lastStep,HX.out,hq];simp [hd]))
      clear hq
      go_wp2_with (go_at_call 169;refine hcall.mono ?_;rintro e w1 ⟨rfl,hb1⟩)
      go_roundw
      case rel=>exact ⟨k+1,by omega,by go_num,by rw [HF.out] <;> rfl,bt_ hB hb1,hbx.ext hb1,hbf.ext hb1⟩
      case measure=>exact ms_
  ·obtain rfl:k=rn:=by omega
   go_wp2
   go_ret
   exact ⟨rfl,hB⟩
end Go.Proofs.YtoiompoapikkbaaGreat
