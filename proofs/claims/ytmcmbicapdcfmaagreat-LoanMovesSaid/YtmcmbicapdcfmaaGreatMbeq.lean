/- Layer 2 of the texts that LoanMoves takes: Mbeq. -/
import Derived.Test.YtmcmbicapdcfmaaGreatMbdq
set_option linter.unusedVariables false
set_option linter.unusedSimpArgs false
set_option maxHeartbeats 16000000
namespace Go.Proofs.YtmcmbicapdcfmaaGreat
open Go.RowKit Go.Maps
structure Rw where
 A:Option Addr
 (n c:Nat)
 xs:List Int
def Rw.v (r:Rw):Value:=.slice r.A r.n r.c
structure RwAt (lo:Nat) (W:World) (r:Rw):Prop where
 len:r.xs.length=r.n
 cap:r.n≤r.c∧r.c≤maxLen
 at_:r.A=none∧r.n=0∧r.c=0∨∃ b,r.A=some ⟨b,0,none⟩∧lo≤b∧BoxA W b 3 (intL r.xs).toArray
theorem RwAt.ext {lo:Nat} {W W':World} {r:Rw} (h:RwAt lo W r) (hb:Below W.heap.size W W'):RwAt lo W' r:=⟨h.len,h.cap,h.at_.imp id fun ⟨b,e,hl,hx⟩=>⟨b,e,hl,hx.ext hb⟩⟩
theorem RwAt.kept {lo base size n:Nat} {W W':World} {r:Rw} {t:TypeId} {v:Value} {xs:List Value} (h:RwAt lo W r) (ho:W.ownsRow base t size v n xs) (ht:t≠3) (hg:W.grownBy W' v.ownBlock):RwAt lo W' r:=⟨h.len,h.cap,h.at_.imp id fun ⟨b,e,hl,hx⟩=>⟨b,e,hl,hx.kept hg (fun he=>by
 obtain ⟨cur,hh⟩:=own_block ho he.symm
 have h2:W.heap[b]?=some (.cells (intL r.xs).toArray 3 (0,0)):=hx
 rw [h2] at hh
 injection hh with hh
 injection hh with _ h3
 exact ht h3.symm)⟩⟩
theorem RwAt.is {lo:Nat} {W:World} {r:Rw} (h:RwAt lo W r):Is W W.heap.size r.A r.n r.xs:=by
 rcases h.at_ with ⟨h1,h2,-⟩ | ⟨b,h1,-,hx⟩
 ·have h3:=h.len
  rw [h2] at h3
  rw [h1,h2,List.eq_nil_of_length_eq_zero h3]
  exact Rd.nil_
 ·rw [h1]
  exact is_box hx h.len
theorem r_isOf_v (l:Led) (v:Vw) (i:Nat) (r:Rcp) (pap leaf:Int) (q:Bool) (w:World) (hn:v.x.rn≤1000000) (hd:LedIn w w.heap.size v.x l) (hr:l.rc[i]?=some r) (hq:(countsB r.kn r.un v.kn && isOfB pap leaf r)=q) :
 Calls Tryz.prog 143 #[vwV v,.int .i64 i,.agg #[.int .i64 pap,.int .i64 leaf]] w fun e w'=>e=.returned (.bool q)∧Below w.heap.size w w':=hq ▸ r_isOf l v i r pap leaf w hn hd hr
def newer (s:Option (Nat × Int)) (day:Int):Bool:=match s with
 | none=>true
 | some p=>decide (p.2<day)
def lastStep (kn pap leaf day:Int) (R:List Rcp) (s:Option (Nat × Int)) (i:Nat):Option (Nat × Int):=match R[i]? with
 | none=>s
 | some r=>if ((countsB r.kn r.un kn && isOfB pap leaf r) && (decide (r.day≤day) && newer s r.day))=true then some (i,r.day) else s
def lastK (kn pap leaf day:Int) (R:List Rcp) (k:Nat):Option (Nat × Int):=(List.range k).foldl (lastStep kn pap leaf day R) none
theorem lastK_succ (kn pap leaf day:Int) (R:List Rcp) (k:Nat):lastK kn pap leaf day R (k+1)=lastStep kn pap leaf day R (lastK kn pap leaf day R k) k:=by
 rw [lastK,List.range_succ,List.foldl_append];rfl
theorem lastK_at {kn pap leaf day:Int} {R:List Rcp}:∀ {k:Nat} {j:Nat} {d:Int},lastK kn pap leaf day R k=some (j,d)→j<k∧∃ r,R[j]?=some r∧r.day=d
 | 0,j,d,h=>by simp [lastK] at h
 | k+1,j,d,h=>by
   rw [lastK_succ,lastStep] at h
   cases hr:R[k]? with
   | none =>
     rw [hr] at h
     obtain ⟨h1,h2⟩:=lastK_at h
     exact ⟨by omega,h2⟩
   | some r =>
     rw [hr] at h
     simp only at h
     split at h
     ·simp only [Option.some.injEq,Prod.mk.injEq] at h
      obtain ⟨rfl,rfl⟩:=h
      exact ⟨by omega,r,hr,rfl⟩
     ·obtain ⟨h1,h2⟩:=lastK_at h
      exact ⟨by omega,h2⟩
def lastI:Option (Nat × Int)→Int
 | some p=>p.1
 | none=>-1
set_option maxRecDepth 10000 in
theorem r_last (l:Led) (v:Vw) (pap leaf day:Int) (w:World) (hn:v.x.rn≤1000000) (hd:LedIn w w.heap.size v.x l) :
 Calls Tryz.prog 104 #[vwV v,.agg #[.int .i64 pap,.int .i64 leaf],.int .i64 day] w fun e w'=>e=.returned (.int .i64 (lastI (lastK v.kn pap leaf day l.rc l.rc.length)))∧Below w.heap.size w w':=by
 obtain ⟨⟨pA,pn,pc,rA,rn,rc,tA,tn,tc,sA,sn,sc⟩,kn,TA,Tn,Tc,DA,Dn,Dc⟩:=v
 show Calls _ _ #[.agg #[.slice pA pn pc,.slice rA rn rc,.slice tA tn tc,.slice sA sn sc,.int .i64 kn,.slice TA Tn Tc,.slice DA Dn Dc],_,_] _ (fun e w'=>e=.returned (.int .i64 (lastI (lastK kn pap leaf day l.rc l.rc.length)))∧Below w.heap.size w w')
 have HI:Hid (∀ (W:World) (i:Nat) (r:Rcp) (q:Bool),Below w.heap.size w W→l.rc[i]?=some r→(countsB r.kn r.un kn && isOfB pap leaf r)=q→Calls Tryz.prog 143 #[.agg #[.slice pA pn pc,.slice rA rn rc,.slice tA tn tc,.slice sA sn sc,.int .i64 kn,.slice TA Tn Tc,.slice DA Dn Dc],.int .i64 i,.agg #[.int .i64 pap,.int .i64 leaf]] W fun e w'=>e=.returned (.bool q)∧Below W.heap.size W w'):=by
  show ∀ _,_
  exact fun W i r q hW h1 h2=>r_isOf_v l ⟨⟨pA,pn,pc,rA,rn,rc,tA,tn,tc,sA,sn,sc⟩,kn,TA,Tn,Tc,DA,Dn,Dc⟩ i r pap leaf q W hn (hd.now hW) h1 h2
 have HR:Hid (Rcs w w.heap.size rA rn l.rc):=by show Sq _ _ _ _ _ _ _;exact hd.r
 have hrn:rn≤1000000:=hn
 rw [HR.out.len]
 clear hd hn
 go_enter Tryz.func104,Tryz.ntmps104
 go_wp2
 go_loopw [7,8] (fun u i wr=>∃ k:Nat,k≤rn∧i=.int .i64 k∧u=.int .i64 (lastI (lastK kn pap leaf day l.rc k))∧Below w.heap.size w wr∧BoxA wr w.heap.size 89 #[.slice pA pn pc,.slice rA rn rc,.slice tA tn tc,.slice sA sn sc,.int .i64 kn,.slice TA Tn Tc,.slice DA Dn Dc]∧BoxA wr (w.heap.size+1) 48 #[.int .i64 pap,.int .i64 leaf]) (fun _ i _=>rn - (intOf i).toNat)
 case atStart=>exact ⟨0,by omega,rfl,rfl,by exact bel_,(BoxA.new _ _ _).alloc _,by have h:=BoxA.new (w.alloc (.cells #[.slice pA pn pc,.slice rA rn rc,.slice tA tn tc,.slice sA sn sc,.int .i64 kn,.slice TA Tn Tc,.slice DA Dn Dc] 89)) 48 #[.int .i64 pap,.int .i64 leaf];simpa using h⟩
 case round =>
  obtain ⟨k,hk,rfl,rfl,hB,hbx,hbf⟩:=hrel
  have hs0:=hB.size
  have kx:=hbx.cell
  have zx:=hbx.lt
  have kf:=hbf.cell
  have zf:=hbf.lt
  by_cases hlt:k<rn
  ·obtain ⟨b,o,r,rfl,hb,hx,A1,n1,c1,⟨h0,h1,h2,h3,h4,h5,h6⟩,hi1,hc1,hm1⟩:=(Sq.ext HR.out abR hB lr_).at_ hlt
   have HX:=hd_ hx
   have hbr:b<wr.heap.size:=by omega
   have HS:=hd_ (lastK_succ kn pap leaf day l.rc k)
   have hrows:∀ (W:World) (j:Nat) (r2:Rcp),Below w.heap.size w W→l.rc[j]?=some r2→W.cell? ⟨b,o+j*7+4,none⟩=some (.int .i64 r2.day):=fun W j r2 hW hj=>by
    obtain ⟨b',o',y,e',_,hy,_,_,_,⟨_,_,_,_,g4,_,_⟩,_⟩:=(Sq.ext HR.out abR hW lr_).at_ (k:=j) (by rw [← HR.out.len];exact (List.getElem?_eq_some_iff.1 hj).1)
    obtain ⟨rfl,rfl⟩:b=b'∧o=o':=by simpa using e'
    obtain rfl:r2=y:=Option.some.inj (hj.symm.trans hy)
    exact g4
   have HW:=hd_ hrows
   clear hx hi1 hrows
   obtain ⟨s,hs⟩:∃ s,lastK kn pap leaf day l.rc k=s:=⟨_,rfl⟩
   have HSs:=hd_ hs
   rw [hs] at HS
   rw [hs]
   clear hs
   have hstep:∀ s':Option (Nat × Int),lastStep kn pap leaf day l.rc s k=s'→lastK kn pap leaf day l.rc (k+1)=s':=fun s' h=>HS.out.trans h
   have HST:=hd_ hstep
   clear hstep
   cases hq:(countsB r.kn r.un kn && isOfB pap leaf r) with
   | false =>
     have HF:=hd_ (HST.out s (by simp only [lastStep,HX.out,hq];rfl))
     have hcall:=HI.out wr k r false hB HX.out hq
     clear hq
     go_wp2_with (go_at_call 143;refine hcall.mono ?_;rintro e w1 ⟨rfl,hb1⟩)
     go_roundw
     case rel=>exact ⟨k+1,by omega,by go_num,by rw [HF.out] <;> rfl,bt_ hB hb1,hbx.ext hb1,hbf.ext hb1⟩
     case measure=>exact ms_
   | true =>
     have hcall:=HI.out wr k r true hB HX.out hq
     by_cases hd:r.day≤day
     ·cases s with
      | none =>
        have HF:=hd_ (HST.out (some (k,r.day)) (by simp only [lastStep,HX.out,hq];simp [hd,newer]))
        clear hq
        simp only [lastI]
        go_wp2_with (go_at_call 143;refine hcall.mono ?_;rintro e w1 ⟨rfl,hb1⟩)
        go_roundw
        case rel=>exact ⟨k+1,by omega,by go_num,by rw [HF.out] <;> rfl,bt_ hB hb1,hbx.ext hb1,hbf.ext hb1⟩
        case measure=>exact ms_
      | some p =>
        obtain ⟨j,d⟩:=p
        obtain ⟨hjk,r2,hj2,hd2⟩:=lastK_at HSs.out
        subst hd2
        simp only [lastI]
        have hmx:max (j:Int) 0=(j:Int):=by omega
        by_cases hlt2:r2.day<r.day
        ·have HF:=hd_ (HST.out (some (k,r.day)) (by simp only [lastStep,HX.out,hq];simp [hd,hlt2,newer]))
         clear hq
         go_wp2_with (go_at_call 143;refine hcall.mono ?_;rintro e w1 ⟨rfl,hb1⟩;have g4:=HW.out w1 j r2 (bt_ hB hb1) hj2;have kx1:=(hbx.ext hb1).cell;have zb1:=Nat.lt_of_lt_of_le hbr hb1.size;have zx1:=(hbx.ext hb1).lt)
         go_roundw
         case rel=>exact ⟨k+1,by omega,by go_num,by rw [HF.out] <;> rfl,bt_ hB hb1,hbx.ext hb1,hbf.ext hb1⟩
         case measure=>exact ms_
        ·have HF:=hd_ (HST.out (some (j,r2.day)) (by simp only [lastStep,HX.out,hq];simp [hd,hlt2,newer]))
         clear hq
         go_wp2_with (go_at_call 143;refine hcall.mono ?_;rintro e w1 ⟨rfl,hb1⟩;have g4:=HW.out w1 j r2 (bt_ hB hb1) hj2;have kx1:=(hbx.ext hb1).cell;have zb1:=Nat.lt_of_lt_of_le hbr hb1.size;have zx1:=(hbx.ext hb1).lt)
         go_roundw
         case rel=>exact ⟨k+1,by omega,by go_num,by rw [HF.out] <;> rfl,bt_ hB hb1,hbx.ext hb1,hbf.ext hb1⟩
         case measure=>exact ms_
     ·have HF:=hd_ (HST.out s (by simp only [lastStep,HX.out,hq];simp [hd]))
      clear hq
      go_wp2_with (go_at_call 143;refine hcall.mono ?_;rintro e w1 ⟨rfl,hb1⟩)
      go_roundw
      case rel=>exact ⟨k+1,by omega,by go_num,by rw [HF.out] <;> rfl,bt_ hB hb1,hbx.ext hb1,hbf.ext hb1⟩
      case measure=>exact ms_
  ·obtain rfl:k=rn:=by omega
   go_wp2
   go_ret
   exact ⟨rfl,hB⟩
def excL (l:Led) (s:Int):Led:=⟨l.pp,l.rc.filter (fun r=>!(r.src == s)),l.rt.filter (fun r=>!(r.src == s)),l.sg.filter (fun r=>!(r.src == s))⟩
theorem LedOk.exc {l:Led} (h:LedOk l) (s:Int):LedOk (excL l s) :=
 ⟨h.pn,Nat.le_trans (List.length_filter_le _ _) h.rn,Nat.le_trans (List.length_filter_le _ _) h.tn,Nat.le_trans (List.length_filter_le _ _) h.sn,h.pp,fun r hr=>h.rc r (List.mem_filter.1 hr).1,fun r hr=>h.rt r (List.mem_filter.1 hr).1,fun r hr=>h.sg r (List.mem_filter.1 hr).1⟩
def movL (l:Led) (src day kn:Int):List (Int × Int):=(folL l.pp).filter fun f=>!decide (whL l kn day f=whL (excL l src) kn day f)
def movX (l:Led) (src day kn:Int):List (Int × Int) × Int :=
 if preE l [day,kn]=0 then (if src∈srcL l then (if setE l kn=setE (excL l src) kn then (if setE l kn=0 then (movL l src day kn,0) else ([],0)) else (folL l.pp,0)) else ([],3)) else ([],preE l [day,kn])
theorem exc_rv (xs:List Rv) (s:Int):(xs.filter fun v=>!(v.r.src == s)).map Rv.r=(xs.map Rv.r).filter fun r=>!(r.src == s):=by
 rw [List.filter_map]
 rfl
theorem exc_tv (xs:List Tv) (s:Int):(xs.filter fun v=>!(v.r.src == s)).map Tv.r=(xs.map Tv.r).filter fun r=>!(r.src == s):=by
 rw [List.filter_map]
 rfl
end Go.Proofs.YtmcmbicapdcfmaaGreat
