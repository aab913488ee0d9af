/- Layer 2 of the texts that LoanPlaces takes: Pbkq. -/
import Derived.Test.YtoiompoapikkbaaGreatPaqq
set_option linter.unusedVariables false
set_option linter.unusedSimpArgs false
set_option maxHeartbeats 16000000
namespace Go.Proofs.YtoiompoapikkbaaGreat
open Go.RowKit
theorem and5_1 {a b c d e R:Bool} (h:(a && (b && (c && (d && e))))=R) (ha:a=false):R=false:=by subst h;simp [ha]
theorem and5_2 {a b c d e R:Bool} (h:(a && (b && (c && (d && e))))=R) (ha:b=false):R=false:=by subst h;simp [ha]
theorem and5_3 {a b c d e R:Bool} (h:(a && (b && (c && (d && e))))=R) (ha:c=false):R=false:=by subst h;simp [ha]
theorem and5_4 {a b c d e R:Bool} (h:(a && (b && (c && (d && e))))=R) (ha:d=false):R=false:=by subst h;simp [ha]
theorem valB_long {α:Type} {num:α→Int} {ok:α→Bool} {most n:Nat} {l:List α} (hl:l.length=n) (h:most<n):valB num ok most l=false:=by
 rw [valB,Bool.and_eq_false_iff];left;simp;omega
theorem valB_at {α:Type} {num:α→Int} {ok:α→Bool} {most n k:Nat} {l:List α} (hl:l.length=n) (hk:k<n) (h:valAt num ok l k=false):valB num ok most l=false:=by
 rw [valB,val_false (by omega) h,Bool.and_false]
theorem valB_all {α:Type} {num:α→Int} {ok:α→Bool} {most n:Nat} {l:List α} (hl:l.length=n) (hn:n≤most) (h:(List.range n).all (valAt num ok l)=true):valB num ok most l=true:=by
 rw [valB,hl,h];simp;omega
theorem valAt_bad {α:Type} {num:α→Int} {ok:α→Bool} {l:List α} {k:Nat} {x:α} (hx:l[k]?=some x) (h:ok x=false):valAt num ok l k=false:=by
 cases k with
 | zero=>simp [valAt,hx,h]
 | succ j=>cases hj:l[j]? <;> simp [valAt,hx,h,hj]
theorem valAt_first {α:Type} {num:α→Int} {ok:α→Bool} {l:List α} {k:Nat} {x:α} (hk:k=0) (hx:l[k]?=some x) (h:ok x=true):valAt num ok l k=true:=by
 subst hk;simp [valAt,hx,h]
theorem valAt_next {α:Type} {num:α→Int} {ok:α→Bool} {l:List α} {j:Nat} {x y:α} (hx:l[j+1]?=some x) (hy:l[j]?=some y) (h:ok x=true) (hxy:num y<num x):valAt num ok l (j+1)=true:=by
 simp [valAt,hx,hy,h,hxy]
theorem valAt_order {α:Type} {num:α→Int} {ok:α→Bool} {l:List α} {j:Nat} {x y:α} (hx:l[j+1]?=some x) (hy:l[j]?=some y) (hxy:¬ num y<num x):valAt num ok l (j+1)=false:=by
 simp [valAt,hx,hy];omega
theorem r_CheckPaper_v (p:Ppr) (v:Int) (w:World) (h:errI p.okB 20=v):Calls Tryz.prog 11 #[.agg #[.int .i64 p.id,.int .i64 p.lv]] w fun e w'=>e=.returned (.int .i64 v)∧Below w.heap.size w w':=h ▸ r_CheckPaper p w
theorem r_CheckSight_v (s:Sgt) (v:Int) (w:World) (h:errI s.okB 23=v):Calls Tryz.prog 17 #[.agg #[.int .i64 s.src,.int .i64 s.per,.int .i64 s.pap,.int .i64 s.leaf,.int .i64 s.day,.int .i64 s.kn,.int .i64 s.un]] w fun e w'=>e=.returned (.int .i64 v)∧Below w.heap.size w w':=h ▸ r_CheckSight s w
theorem r_CheckReceipt_v (r:Rcp) (v:Int) (A:Option Addr) (n c:Nat) (w:World) (hn:n≤9223372036854775807) (hd:Is w w.heap.size A n r.lv) (h:errI r.okB 21=v) :
 Calls Tryz.prog 13 #[.agg #[.int .i64 r.src,.int .i64 r.bor,.int .i64 r.pap,.slice A n c,.int .i64 r.day,.int .i64 r.kn,.int .i64 r.un]] w fun e w'=>e=.returned (.int .i64 v)∧Below w.heap.size w w':=h ▸ r_CheckReceipt r A n c w hn hd
theorem r_CheckReturn_v (r:Rtn) (v:Int) (A:Option Addr) (n c:Nat) (w:World) (hn:n≤9223372036854775807) (hd:Is w w.heap.size A n r.lv) (h:errI r.okB 22=v) :
 Calls Tryz.prog 15 #[.agg #[.int .i64 r.src,.int .i64 r.rcp,.int .i64 r.per,.slice A n c,.int .i64 r.lo,.int .i64 r.hi,.int .i64 r.kn,.int .i64 r.un]] w fun e w'=>e=.returned (.int .i64 v)∧Below w.heap.size w w':=h ▸ r_CheckReturn r A n c w hn hd
theorem r_isFolio_v (pp:List Ppr) (x:Lsl) (a b:Int) (v:Bool) (w:World) (hn:x.pn≤9223372036854775807) (hd:Pps w w.heap.size x.pA x.pn pp) (h:folB pp a b=v) :
 Calls Tryz.prog 64 #[.agg #[.slice x.pA x.pn x.pc,.slice x.rA x.rn x.rc,.slice x.tA x.tn x.tc,.slice x.sA x.sn x.sc],.agg #[.int .i64 a,.int .i64 b]] w fun e w'=>e=.returned (.bool v)∧Below w.heap.size w w':=h ▸ r_isFolio pp x a b w hn hd
theorem okB_last {r:Rcp} (h:r.okB=true):∃ m,r.lv.length=m+1∧r.lv[m]?=some r.last:=by
 simp only [Rcp.okB,Bool.and_eq_true] at h
 have hl:=h.2.2.2.1
 rw [leavesB,Bool.and_eq_true,decide_eq_true_eq] at hl
 refine ⟨r.lv.length - 1,by omega,?_⟩
 rw [Rcp.last,List.getD_eq_getElem?_getD,List.getElem?_eq_getElem (by omega)];rfl
set_option maxRecDepth 100000 in
theorem r_Check (l:Led) (x:Lsl) (w:World) (hp:x.pn≤9223372036854775807) (hr:x.rn≤9223372036854775807) (ht:x.tn≤9223372036854775807) (hs:x.sn≤9223372036854775807) (hd:LedIn w w.heap.size x l) :
 Calls Tryz.prog 19 #[.agg #[.slice x.pA x.pn x.pc,.slice x.rA x.rn x.rc,.slice x.tA x.tn x.tc,.slice x.sA x.sn x.sc]] w fun e w'=>e=.returned (.int .i64 (errI (ledB l) 24))∧Below w.heap.size w w':=by
 obtain ⟨pA,pn,pc,rA,rn,rc,tA,tn,tc,sA,sn,sc⟩:=x
 have hpn:pn≤9223372036854775807:=hp
 have hrn:rn≤9223372036854775807:=hr
 have htn:tn≤9223372036854775807:=ht
 have hsn:sn≤9223372036854775807:=hs
 clear hp hr ht hs
 rw [ledB_ref]
 show Calls _ _ #[.agg #[.slice pA pn pc,.slice rA rn rc,.slice tA tn tc,.slice sA sn sc]] _ _
 obtain ⟨R,hR⟩:∃ R,(valB Ppr.id Ppr.okB 12 l.pp && (valB Rcp.src (rcOk l.pp) 60 l.rc && (valB Rtn.src Rtn.okB 60 l.rt && (valB Sgt.src (sgOk l.pp) 60 l.sg && decide (srcL l).Nodup))))=R:=⟨_,rfl⟩
 rw [hR]
 have HR:=hd_ hR
 clear hR
 have HL0:Hid (l.pp.length=pn):=by show _=_;exact hd.p.len
 have HL1:Hid (l.rc.length=rn):=by show _=_;exact hd.r.len
 have HL2:Hid (l.rt.length=tn):=by show _=_;exact hd.t.len
 have HL3:Hid (l.sg.length=sn):=by show _=_;exact hd.s.len
 obtain ⟨W1,hW1⟩:∃ W1,(w.alloc (.cells #[.slice pA pn pc,.slice rA rn rc,.slice tA tn tc,.slice sA sn sc] 27))=W1:=⟨_,rfl⟩
 have hB0:Below w.heap.size w W1:=by rw [← hW1];exact (Below.refl _ _).alloc lr_ _
 have hz1:W1.heap.size=w.heap.size+1:=by rw [← hW1];simp
 have HBX:Hid (LedBox W1 w.heap.size ⟨pA,pn,pc,rA,rn,rc,tA,tn,tc,sA,sn,sc⟩):=by
  show _∧_
  rw [← hW1]
  simp
 have HD1:=hd_ (hd.now hB0)
 have HDp:Hid (Pps W1 W1.heap.size pA pn l.pp):=by show Sq _ _ _ _ _ _ _;exact HD1.out.p
 have HDr:Hid (Rcs W1 W1.heap.size rA rn l.rc):=by show Sq _ _ _ _ _ _ _;exact HD1.out.r
 have HDt:Hid (Rts W1 W1.heap.size tA tn l.rt):=by show Sq _ _ _ _ _ _ _;exact HD1.out.t
 have HDs:Hid (Sgs W1 W1.heap.size sA sn l.sg):=by show Sq _ _ _ _ _ _ _;exact HD1.out.s
 clear hd
 have HW1:=hd_ hW1
 clear hW1
 by_cases cpn:12<pn
 ·have HF:Hid (R=false):=by show _=_;exact and5_1 HR.out (valB_long HL0.out cpn)
  clear HBX
  go_enter Tryz.func19,Tryz.ntmps19
  go_wp2
  go_ret
  exact ⟨ret_int (by rw [HF.out];rfl),by rw [HW1.out];exact hB0⟩
 by_cases crn:60<rn
 ·have HF:Hid (R=false):=by show _=_;exact and5_2 HR.out (valB_long HL1.out crn)
  clear HBX
  go_enter Tryz.func19,Tryz.ntmps19
  go_wp2
  go_ret
  exact ⟨ret_int (by rw [HF.out];rfl),by rw [HW1.out];exact hB0⟩
 by_cases ctn:60<tn
 ·have HF:Hid (R=false):=by show _=_;exact and5_3 HR.out (valB_long HL2.out ctn)
  clear HBX
  go_enter Tryz.func19,Tryz.ntmps19
  go_wp2
  go_ret
  exact ⟨ret_int (by rw [HF.out];rfl),by rw [HW1.out];exact hB0⟩
 by_cases csn:60<sn
 ·have HF:Hid (R=false):=by show _=_;exact and5_4 HR.out (valB_long HL3.out csn)
  clear HBX
  go_enter Tryz.func19,Tryz.ntmps19
  go_wp2
  go_ret
  exact ⟨ret_int (by rw [HF.out];rfl),by rw [HW1.out];exact hB0⟩
 go_enter Tryz.func19,Tryz.ntmps19
 go_wp2
 go_loopw [3] (fun i wr=>∃ k:Nat,k≤pn∧i=.int .i64 k∧(List.range k).all (valAt Ppr.id Ppr.okB l.pp)=true∧Below W1.heap.size W1 wr) (fun i _=>pn - (intOf i).toNat)
 case atStart=>exact ⟨0,by omega,rfl,rfl,by rw [HW1.out];exact Below.refl _ _⟩
 case round =>
  obtain ⟨k,hk,rfl,hall,hB⟩:=hrel
  have HA:=hd_ hall
  clear hall
  have hs0:w.heap.size+1≤wr.heap.size:=by have h:=hB.size;omega
  obtain ⟨g0,g1,g2,g3⟩:LedBox wr w.heap.size ⟨pA,pn,pc,rA,rn,rc,tA,tn,tc,sA,sn,sc⟩:=HBX.out.ext hB
  have hwb:w.heap.size<wr.heap.size:=by omega
  by_cases hlt:k<pn
  ·obtain ⟨b,o,p,rfl,hb,hx,hq⟩:=(Sq.ext HDp.out abP hB lr_).at_ hlt
   have HX:=hd_ hx
   clear hx
   have hbr:b<wr.heap.size:=by omega
   obtain ⟨h0,h1⟩:=hq
   cases hok:p.okB with
   | false =>
     have HF:Hid (R=false):=by show _=_;exact and5_1 HR.out (valB_at HL0.out hlt (valAt_bad HX.out hok))
     have HV:Hid (errI p.okB 20=20):=by show _=_;rw [hok];rfl
     clear hok
     go_wp2_with fail
     (refine rg_ ?_;(repeat (go_big_quiet_step ((first | (go_at_call 11;exact Calls.grow_of (r_CheckPaper_v p 20 _ HV.out))))));refine qn_ fun w1 hb1 hc1 hf1=>?_)
     go_wp2_with fail
     go_ret
     exact ⟨ret_int (by rw [HF.out];rfl),hB0.trans ((bt_ (W:=wr) (show Below W1.heap.size W1 wr by first | exact hB | exact hB.alloc (by omega) _) hb1).mono (by omega))⟩
   | true =>
     have HV:Hid (errI p.okB 20=0):=by show _=_;rw [hok];rfl
     have HOk:=hd_ hok
     clear hok
     by_cases hk0:k=0
     ·have hk2:decide (0<k)=false:=by simp;omega
      have HF:Hid (valAt Ppr.id Ppr.okB l.pp (k)=true):=by show _=_;exact valAt_first hk0 HX.out HOk.out
      clear hk0
      go_wp2_with fail
      (refine rg_ ?_;(repeat (go_big_quiet_step ((first | (go_at_call 11;exact Calls.grow_of (r_CheckPaper_v p 0 _ HV.out))))));refine qn_ fun w1 hb1 hc1 hf1=>?_)
      go_wp2_with fail
      go_roundw
      case rel=>exact ⟨k+1,by omega,by go_num,val_succ HA.out HF.out,bt_ (W:=wr) (show Below W1.heap.size W1 wr by first | exact hB | exact hB.alloc (by omega) _) hb1⟩
      case measure=>exact ms_
     ·obtain ⟨j,rfl⟩:∃ j,k=j+1:=⟨k - 1,by omega⟩
      obtain ⟨b',o',y,e',_,hy,⟨hy0,_⟩⟩:=(Sq.ext HDp.out abP hB lr_).at_ (k:=j) (by omega)
      obtain ⟨rfl,rfl⟩:b=b'∧o=o':=by simpa using e'
      have HY:=hd_ hy
      clear hy e' hk0
      by_cases hxy:y.id<p.id
      ·have hxd:decide (p.id≤y.id)=false:=by simp;omega
       have HF:Hid (valAt Ppr.id Ppr.okB l.pp (j+1)=true):=by show _=_;exact valAt_next HX.out HY.out HOk.out hxy
       clear hxy
       go_wp2_with fail
       (refine rg_ ?_;(repeat (go_big_quiet_step ((first | (go_at_call 11;exact Calls.grow_of (r_CheckPaper_v p 0 _ HV.out))))));refine qn_ fun w1 hb1 hc1 hf1=>?_)
       go_wp2_with fail
       go_roundw
       case rel=>exact ⟨j+1+1,by omega,by go_num,val_succ HA.out HF.out,bt_ (W:=wr) (show Below W1.heap.size W1 wr by first | exact hB | exact hB.alloc (by omega) _) hb1⟩
       case measure=>exact ms_
      ·have HF:Hid (R=false):=by show _=_;exact and5_1 HR.out (valB_at HL0.out hlt (valAt_order HX.out HY.out hxy))
       have hxd:decide (p.id≤y.id)=true:=by simp;omega
       clear hxy
       go_wp2_with fail
       (refine rg_ ?_;(repeat (go_big_quiet_step ((first | (go_at_call 11;exact Calls.grow_of (r_CheckPaper_v p 0 _ HV.out))))));refine qn_ fun w1 hb1 hc1 hf1=>?_)
       go_wp2_with fail
       go_ret
       exact ⟨ret_int (by rw [HF.out];rfl),hB0.trans ((bt_ (W:=wr) (show Below W1.heap.size W1 wr by first | exact hB | exact hB.alloc (by omega) _) hb1).mono (by omega))⟩
  ·have hkn:k=pn:=by omega
   have HB0:=hd_ hB
   have HA0:Hid (valB Ppr.id Ppr.okB 12 l.pp=true):=by show _=_;exact valB_all HL0.out (by omega) (by rw [← hkn];exact HA.out)
   clear hB HA hkn
   go_wp2_with fail
   go_loopw [4] (fun i wr=>∃ k:Nat,k≤rn∧i=.int .i64 k∧(List.range k).all (valAt Rcp.src (rcOk l.pp) l.rc)=true∧Below W1.heap.size W1 wr) (fun i _=>rn - (intOf i).toNat)
   case atStart=>exact ⟨0,by omega,rfl,rfl,HB0.out⟩
   case round =>
    obtain ⟨k,hk,rfl,hall,hB⟩:=hrel
    have HA:=hd_ hall
    clear hall
    have hs0:w.heap.size+1≤wr.heap.size:=by have h:=hB.size;omega
    obtain ⟨g0,g1,g2,g3⟩:LedBox wr w.heap.size ⟨pA,pn,pc,rA,rn,rc,tA,tn,tc,sA,sn,sc⟩:=HBX.out.ext hB
    have hwb:w.heap.size<wr.heap.size:=by omega
    by_cases hlt:k<rn
    ·obtain ⟨b,o,r,rfl,hb,hx,hq⟩:=(Sq.ext HDr.out abR hB lr_).at_ hlt
     have HX:=hd_ hx
     clear hx
     have hbr:b<wr.heap.size:=by omega
     obtain ⟨A1,n1,c1,⟨h0,h1,h2,h3,h4,h5,h6⟩,hi1,hc1,hm1⟩:=hq
     have HI1:=hd_ hi1
     clear hi1
     have hn1:n1≤9223372036854775807:=by have:maxLen≤9223372036854775807:=(by decide);omega
     have hbr1:b<wr.heap.size+1:=by omega
     have hwb1:w.heap.size<wr.heap.size+1:=by omega
     have HI2:Hid (Is (wr.alloc (.cells #[.int .i64 r.src,.int .i64 r.bor,.int .i64 r.pap,.slice A1 n1 c1,.int .i64 r.day,.int .i64 r.kn,.int .i64 r.un] 32)) (wr.alloc (.cells #[.int .i64 r.src,.int .i64 r.bor,.int .i64 r.pap,.slice A1 n1 c1,.int .i64 r.day,.int .i64 r.kn,.int .i64 r.un] 32)).heap.size A1 n1 r.lv):=by
      show Is _ _ _ _ _
      exact (show Is wr wr.heap.size A1 n1 r.lv from Is.more HI1.out (by omega)).now (by exact bel_)
     have HP2:Hid (Pps (wr.alloc (.cells #[.int .i64 r.src,.int .i64 r.bor,.int .i64 r.pap,.slice A1 n1 c1,.int .i64 r.day,.int .i64 r.kn,.int .i64 r.un] 32)) (wr.alloc (.cells #[.int .i64 r.src,.int .i64 r.bor,.int .i64 r.pap,.slice A1 n1 c1,.int .i64 r.day,.int .i64 r.kn,.int .i64 r.un] 32)).heap.size pA pn l.pp):=by
      show Sq _ _ _ _ _ _ _
      exact (HDp.out.now abP hB).now abP (by exact bel_)
     cases hok:r.okB with
     | false =>
       have HF:Hid (R=false):=by show _=_;exact and5_2 HR.out (valB_at HL1.out hlt (valAt_bad HX.out (by simp [rcOk,hok])))
       have HV:Hid (errI r.okB 21=21):=by show _=_;rw [hok];rfl
       clear hok
       go_wp2_with fail
       (refine rg_ ?_;(repeat (go_big_quiet_step ((first | (go_at_call_of 13 (Value.agg #[.int .i64 r.src,.int .i64 r.bor,.int .i64 r.pap,.slice A1 n1 c1,.int .i64 r.day,.int .i64 r.kn,.int .i64 r.un]);exact Calls.grow_all (fun g=>r_CheckReceipt_v r 21 A1 n1 c1 g.1 hn1 (HI2.out.now g.2) HV.out))))));refine qn_ fun w1 hb1 hc1 hf1=>?_)
       go_wp2_with fail
       go_ret
       exact ⟨ret_int (by rw [HF.out];rfl),hB0.trans ((bt_ (W:=(wr.alloc (.cells #[.int .i64 r.src,.int .i64 r.bor,.int .i64 r.pap,.slice A1 n1 c1,.int .i64 r.day,.int .i64 r.kn,.int .i64 r.un] 32))) (show Below W1.heap.size W1 (wr.alloc (.cells #[.int .i64 r.src,.int .i64 r.bor,.int .i64 r.pap,.slice A1 n1 c1,.int .i64 r.day,.int .i64 r.kn,.int .i64 r.un] 32)) by first | exact hB | exact hB.alloc (by omega) _) hb1).mono (by omega))⟩
     | true =>
       have HV:Hid (errI r.okB 21=0):=by show _=_;rw [hok];rfl
       have HOk:=hd_ hok
       clear hok
       obtain ⟨m1,hm2,hlast⟩:=okB_last HOk.out
       have hlm:=HI1.out.len
       have hnm:n1=m1+1:=by omega
       obtain ⟨b1,o1,y1,rfl,hb1r,hy1,hc0⟩:=HI1.out.at_ (k:=m1) (by omega)
       obtain rfl:r.last=y1:=Option.some.inj (hlast.symm.trans hy1)
       have hwm:IntKind.i64.wrap ((n1:Int) - 1)=(m1:Int):=(IntWalk.i64_in _ (by omega)).trans (by omega)
       have hmn:m1<n1:=by omega
       clear hlast hy1 hm2 hlm hnm
       have hb1x:b1<wr.heap.size+1:=by omega
       have hb1y:b1<wr.heap.size:=by omega
       by_cases hk0:k=0
       ·have hk2:decide (0<k)=false:=by simp;omega
        cases hfo:folB l.pp r.pap r.last with
        | false =>
          have HF:Hid (R=false):=by show _=_;exact and5_2 HR.out (valB_at HL1.out hlt (valAt_bad HX.out (by simp [rcOk,hfo])))
          have HFo:=hd_ hfo
          clear hfo
          clear hk0
          go_wp2_with fail
          (refine rg_ ?_;(repeat (go_big_quiet_step ((first | (go_at_call_of 13 (Value.agg #[.int .i64 r.src,.int .i64 r.bor,.int .i64 r.pap,.slice (some ⟨b1,o1,none⟩) n1 c1,.int .i64 r.day,.int .i64 r.kn,.int .i64 r.un]);exact Calls.grow_all (fun g=>r_CheckReceipt_v r 0 (some ⟨b1,o1,none⟩) n1 c1 g.1 hn1 (HI2.out.now g.2) HV.out)) | (go_at_call_of 64 (Value.agg #[.slice pA pn pc,.slice (some ⟨b,o,none⟩) rn rc,.slice tA tn tc,.slice sA sn sc]);exact Calls.grow_all (fun g=>r_isFolio_v l.pp ⟨pA,pn,pc,some ⟨b,o,none⟩,rn,rc,tA,tn,tc,sA,sn,sc⟩ r.pap r.last false g.1 hpn (HP2.out.now abP g.2) HFo.out))))));refine qn_ fun w1 hb1 hc1 hf1=>?_)
          go_wp2_with fail
          go_ret
          exact ⟨ret_int (by rw [HF.out];rfl),hB0.trans ((bt_ (W:=(wr.alloc (.cells #[.int .i64 r.src,.int .i64 r.bor,.int .i64 r.pap,.slice (some ⟨b1,o1,none⟩) n1 c1,.int .i64 r.day,.int .i64 r.kn,.int .i64 r.un] 32))) (show Below W1.heap.size W1 (wr.alloc (.cells #[.int .i64 r.src,.int .i64 r.bor,.int .i64 r.pap,.slice (some ⟨b1,o1,none⟩) n1 c1,.int .i64 r.day,.int .i64 r.kn,.int .i64 r.un] 32)) by first | exact hB | exact hB.alloc (by omega) _) hb1).mono (by omega))⟩
        | true =>
          have HF:Hid (valAt Rcp.src (rcOk l.pp) l.rc (k)=true):=by show _=_;exact valAt_first hk0 HX.out (by simp [rcOk,HOk.out,hfo])
          have HFo:=hd_ hfo
          clear hfo
          clear hk0
          go_wp2_with fail
          (refine rg_ ?_;(repeat (go_big_quiet_step ((first | (go_at_call_of 13 (Value.agg #[.int .i64 r.src,.int .i64 r.bor,.int .i64 r.pap,.slice (some ⟨b1,o1,none⟩) n1 c1,.int .i64 r.day,.int .i64 r.kn,.int .i64 r.un]);exact Calls.grow_all (fun g=>r_CheckReceipt_v r 0 (some ⟨b1,o1,none⟩) n1 c1 g.1 hn1 (HI2.out.now g.2) HV.out)) | (go_at_call_of 64 (Value.agg #[.slice pA pn pc,.slice (some ⟨b,o,none⟩) rn rc,.slice tA tn tc,.slice sA sn sc]);exact Calls.grow_all (fun g=>r_isFolio_v l.pp ⟨pA,pn,pc,some ⟨b,o,none⟩,rn,rc,tA,tn,tc,sA,sn,sc⟩ r.pap r.last true g.1 hpn (HP2.out.now abP g.2) HFo.out))))));refine qn_ fun w1 hb1 hc1 hf1=>?_)
          go_wp2_with fail
          go_roundw
          case rel=>exact ⟨k+1,by omega,by go_num,val_succ HA.out HF.out,bt_ (W:=(wr.alloc (.cells #[.int .i64 r.src,.int .i64 r.bor,.int .i64 r.pap,.slice (some ⟨b1,o1,none⟩) n1 c1,.int .i64 r.day,.int .i64 r.kn,.int .i64 r.un] 32))) (show Below W1.heap.size W1 (wr.alloc (.cells #[.int .i64 r.src,.int .i64 r.bor,.int .i64 r.pap,.slice (some ⟨b1,o1,none⟩) n1 c1,.int .i64 r.day,.int .i64 r.kn,.int .i64 r.un] 32)) by first | exact hB | exact hB.alloc (by omega) _) hb1⟩
          case measure=>exact ms_
       ·obtain ⟨j,rfl⟩:∃ j,k=j+1:=⟨k - 1,by omega⟩
        obtain ⟨b',o',y,e',_,hy,⟨_,_,_,⟨hy0,_,_,_,_,_,_⟩,_⟩⟩:=(Sq.ext HDr.out abR hB lr_).at_ (k:=j) (by omega)
        obtain ⟨rfl,rfl⟩:b=b'∧o=o':=by simpa using e'
        have HY:=hd_ hy
        clear hy e' hk0
        by_cases hxy:y.src<r.src
        ·have hxd:decide (r.src≤y.src)=false:=by simp;omega
         cases hfo:folB l.pp r.pap r.last with
         | false =>
           have HF:Hid (R=false):=by show _=_;exact and5_2 HR.out (valB_at HL1.out hlt (valAt_bad HX.out (by simp [rcOk,hfo])))
           have HFo:=hd_ hfo
           clear hfo
           clear hxy
           go_wp2_with fail
           (refine rg_ ?_;(repeat (go_big_quiet_step ((first | (go_at_call_of 13 (Value.agg #[.int .i64 r.src,.int .i64 r.bor,.int .i64 r.pap,.slice (some ⟨b1,o1,none⟩) n1 c1,.int .i64 r.day,.int .i64 r.kn,.int .i64 r.un]);exact Calls.grow_all (fun g=>r_CheckReceipt_v r 0 (some ⟨b1,o1,none⟩) n1 c1 g.1 hn1 (HI2.out.now g.2) HV.out)) | (go_at_call_of 64 (Value.agg #[.slice pA pn pc,.slice (some ⟨b,o,none⟩) rn rc,.slice tA tn tc,.slice sA sn sc]);exact Calls.grow_all (fun g=>r_isFolio_v l.pp ⟨pA,pn,pc,some ⟨b,o,none⟩,rn,rc,tA,tn,tc,sA,sn,sc⟩ r.pap r.last false g.1 hpn (HP2.out.now abP g.2) HFo.out))))));refine qn_ fun w1 hb1 hc1 hf1=>?_)
           go_wp2_with fail
           go_ret
           exact ⟨ret_int (by rw [HF.out];rfl),hB0.trans ((bt_ (W:=(wr.alloc (.cells #[.int .i64 r.src,.int .i64 r.bor,.int .i64 r.pap,.slice (some ⟨b1,o1,none⟩) n1 c1,.int .i64 r.day,.int .i64 r.kn,.int .i64 r.un] 32))) (show Below W1.heap.size W1 (wr.alloc (.cells #[.int .i64 r.src,.int .i64 r.bor,.int .i64 r.pap,.slice (some ⟨b1,o1,none⟩) n1 c1,.int .i64 r.day,.int .i64 r.kn,.int .i64 r.un] 32)) by first | exact hB | exact hB.alloc (by omega) _) hb1).mono (by omega))⟩
         | true =>
           have HF:Hid (valAt Rcp.src (rcOk l.pp) l.rc (j+1)=true):=by show _=_;exact valAt_next HX.out HY.out (by simp [rcOk,HOk.out,hfo]) hxy
           have HFo:=hd_ hfo
           clear hfo
           clear hxy
           go_wp2_with fail
           (refine rg_ ?_;(repeat (go_big_quiet_step ((first | (go_at_call_of 13 (Value.agg #[.int .i64 r.src,.int .i64 r.bor,.int .i64 r.pap,.slice (some ⟨b1,o1,none⟩) n1 c1,.int .i64 r.day,.int .i64 r.kn,.int .i64 r.un]);exact Calls.grow_all (fun g=>r_CheckReceipt_v r 0 (some ⟨b1,o1,none⟩) n1 c1 g.1 hn1 (HI2.out.now g.2) HV.out)) | (go_at_call_of 64 (Value.agg #[.slice pA pn pc,.slice (some ⟨b,o,none⟩) rn rc,.slice tA tn tc,.slice sA sn sc]);exact Calls.grow_all (fun g=>r_isFolio_v l.pp ⟨pA,pn,pc,some ⟨b,o,none⟩,rn,rc,tA,tn,tc,sA,sn,sc⟩ r.pap r.last true g.1 hpn (HP2.out.now abP g.2) HFo.out))))));refine qn_ fun w1 hb1 hc1 hf1=>?_)
           go_wp2_with fail
           go_roundw
           case rel=>exact ⟨j+1+1,by omega,by go_num,val_succ HA.out HF.out,bt_ (W:=(wr.alloc (.cells #[.int .i64 r.src,.int .i64 r.bor,.int .i64 r.pap,.slice (some ⟨b1,o1,none⟩) n1 c1,.int .i64 r.day,.int .i64 r.kn,.int .i64 r.un] 32))) (show Below W1.heap.size W1 (wr.alloc (.cells #[.int .i64 r.src,.int .i64 r.bor,.int .i64 r.pap,.slice (some ⟨b1,o1,none⟩) n1 c1,.int .i64 r.day,.int .i64 r.kn,.int .i64 r.un] 32)) by first | exact hB | exact hB.alloc (by omega) _) hb1⟩
           case measure=>exact ms_
        ·have HF:Hid (R=false):=by show _=_;exact and5_2 HR.out (valB_at HL1.out hlt (valAt_order HX.out HY.out hxy))
         have hxd:decide (r.src≤y.src)=true:=by simp;omega
         clear hxy
         go_wp2_with fail
         (refine rg_ ?_;(repeat (go_big_quiet_step ((first | (go_at_call_of 13 (Value.agg #[.int .i64 r.src,.int .i64 r.bor,.int .i64 r.pap,.slice (some ⟨b1,o1,none⟩) n1 c1,.int .i64 r.day,.int .i64 r.kn,.int .i64 r.un]);exact Calls.grow_all (fun g=>r_CheckReceipt_v r 0 (some ⟨b1,o1,none⟩) n1 c1 g.1 hn1 (HI2.out.now g.2) HV.out))))));refine qn_ fun w1 hb1 hc1 hf1=>?_)
         go_wp2_with fail
         go_ret
         exact ⟨ret_int (by rw [HF.out];rfl),hB0.trans ((bt_ (W:=(wr.alloc (.cells #[.int .i64 r.src,.int .i64 r.bor,.int .i64 r.pap,.slice (some ⟨b1,o1,none⟩) n1 c1,.int .i64 r.day,.int .i64 r.kn,.int .i64 r.un] 32))) (show Below W1.heap.size W1 (wr.alloc (.cells #[.int .i64 r.src,.int .i64 r.bor,.int .i64 r.pap,.slice (some ⟨b1,o1,none⟩) n1 c1,.int .i64 r.day,.int .i64 r.kn,.int .i64 r.un] 32)) by first | exact hB | exact hB.alloc (by omega) _) hb1).mono (by omega))⟩
    ·have hkn:k=rn:=by omega
     have HB1:=hd_ hB
     have HA1:Hid (valB Rcp.src (rcOk l.pp) 60 l.rc=true):=by show _=_;exact valB_all HL1.out (by omega) (by rw [← hkn];exact HA.out)
     clear hB HA hkn
     go_wp2_with fail
     go_loopw [6] (fun i wr=>∃ k:Nat,k≤tn∧i=.int .i64 k∧(List.range k).all (valAt Rtn.src Rtn.okB l.rt)=true∧Below W1.heap.size W1 wr) (fun i _=>tn - (intOf i).toNat)
     case atStart=>exact ⟨0,by omega,rfl,rfl,HB1.out⟩
     case round =>
      obtain ⟨k,hk,rfl,hall,hB⟩:=hrel
      have HA:=hd_ hall
      clear hall
      have hs0:w.heap.size+1≤wr.heap.size:=by have h:=hB.size;omega
      obtain ⟨g0,g1,g2,g3⟩:LedBox wr w.heap.size ⟨pA,pn,pc,rA,rn,rc,tA,tn,tc,sA,sn,sc⟩:=HBX.out.ext hB
      have hwb:w.heap.size<wr.heap.size:=by omega
      by_cases hlt:k<tn
      ·obtain ⟨b,o,t,rfl,hb,hx,hq⟩:=(Sq.ext HDt.out abT hB lr_).at_ hlt
       have HX:=hd_ hx
       clear hx
       have hbr:b<wr.heap.size:=by omega
       obtain ⟨A1,n1,c1,⟨h0,h1,h2,h3,h4,h5,h6,h7⟩,hi1,hc1,hm1⟩:=hq
       have HI1:=hd_ hi1
       clear hi1
       have hn1:n1≤9223372036854775807:=by have:maxLen≤9223372036854775807:=(by decide);omega
       have HI2:Hid (Is wr wr.heap.size A1 n1 t.lv):=by
        show Is _ _ _ _ _
        exact (show Is wr wr.heap.size A1 n1 t.lv from Is.more HI1.out (by omega)).now (by exact bel_)
       cases hok:t.okB with
       | false =>
         have HF:Hid (R=false):=by show _=_;exact and5_3 HR.out (valB_at HL2.out hlt (valAt_bad HX.out hok))
         have HV:Hid (errI t.okB 22=22):=by show _=_;rw [hok];rfl
         clear hok
         go_wp2_with fail
         (refine rg_ ?_;(repeat (go_big_quiet_step ((first | (go_at_call_of 15 (Value.agg #[.int .i64 t.src,.int .i64 t.rcp,.int .i64 t.per,.slice A1 n1 c1,.int .i64 t.lo,.int .i64 t.hi,.int .i64 t.kn,.int .i64 t.un]);exact Calls.grow_all (fun g=>r_CheckReturn_v t 22 A1 n1 c1 g.1 hn1 (HI2.out.now g.2) HV.out))))));refine qn_ fun w1 hb1 hc1 hf1=>?_)
         go_wp2_with fail
         go_ret
         exact ⟨ret_int (by rw [HF.out];rfl),hB0.trans ((bt_ (W:=wr) (show Below W1.heap.size W1 wr by first | exact hB | exact hB.alloc (by omega) _) hb1).mono (by omega))⟩
       | true =>
         have HV:Hid (errI t.okB 22=0):=by show _=_;rw [hok];rfl
         have HOk:=hd_ hok
         clear hok
         by_cases hk0:k=0
         ·have hk2:decide (0<k)=false:=by simp;omega
          have HF:Hid (valAt Rtn.src Rtn.okB l.rt (k)=true):=by show _=_;exact valAt_first hk0 HX.out HOk.out
          clear hk0
          go_wp2_with fail
          (refine rg_ ?_;(repeat (go_big_quiet_step ((first | (go_at_call_of 15 (Value.agg #[.int .i64 t.src,.int .i64 t.rcp,.int .i64 t.per,.slice A1 n1 c1,.int .i64 t.lo,.int .i64 t.hi,.int .i64 t.kn,.int .i64 t.un]);exact Calls.grow_all (fun g=>r_CheckReturn_v t 0 A1 n1 c1 g.1 hn1 (HI2.out.now g.2) HV.out))))));refine qn_ fun w1 hb1 hc1 hf1=>?_)
          go_wp2_with fail
          go_roundw
          case rel=>exact ⟨k+1,by omega,by go_num,val_succ HA.out HF.out,bt_ (W:=wr) (show Below W1.heap.size W1 wr by first | exact hB | exact hB.alloc (by omega) _) hb1⟩
          case measure=>exact ms_
         ·obtain ⟨j,rfl⟩:∃ j,k=j+1:=⟨k - 1,by omega⟩
          obtain ⟨b',o',y,e',_,hy,⟨_,_,_,⟨hy0,_,_,_,_,_,_,_⟩,_⟩⟩:=(Sq.ext HDt.out abT hB lr_).at_ (k:=j) (by omega)
          obtain ⟨rfl,rfl⟩:b=b'∧o=o':=by simpa using e'
          have HY:=hd_ hy
          clear hy e' hk0
          by_cases hxy:y.src<t.src
          ·have hxd:decide (t.src≤y.src)=false:=by simp;omega
           have HF:Hid (valAt Rtn.src Rtn.okB l.rt (j+1)=true):=by show _=_;exact valAt_next HX.out HY.out HOk.out hxy
           clear hxy
           go_wp2_with fail
           (refine rg_ ?_;(repeat (go_big_quiet_step ((first | (go_at_call_of 15 (Value.agg #[.int .i64 t.src,.int .i64 t.rcp,.int .i64 t.per,.slice A1 n1 c1,.int .i64 t.lo,.int .i64 t.hi,.int .i64 t.kn,.int .i64 t.un]);exact Calls.grow_all (fun g=>r_CheckReturn_v t 0 A1 n1 c1 g.1 hn1 (HI2.out.now g.2) HV.out))))));refine qn_ fun w1 hb1 hc1 hf1=>?_)
           go_wp2_with fail
           go_roundw
           case rel=>exact ⟨j+1+1,by omega,by go_num,val_succ HA.out HF.out,bt_ (W:=wr) (show Below W1.heap.size W1 wr by first | exact hB | exact hB.alloc (by omega) _) hb1⟩
           case measure=>exact ms_
          ·have HF:Hid (R=false):=by show _=_;exact and5_3 HR.out (valB_at HL2.out hlt (valAt_order HX.out HY.out hxy))
           have hxd:decide (t.src≤y.src)=true:=by simp;omega
           clear hxy
           go_wp2_with fail
           (refine rg_ ?_;(repeat (go_big_quiet_step ((first | (go_at_call_of 15 (Value.agg #[.int .i64 t.src,.int .i64 t.rcp,.int .i64 t.per,.slice A1 n1 c1,.int .i64 t.lo,.int .i64 t.hi,.int .i64 t.kn,.int .i64 t.un]);exact Calls.grow_all (fun g=>r_CheckReturn_v t 0 A1 n1 c1 g.1 hn1 (HI2.out.now g.2) HV.out))))));refine qn_ fun w1 hb1 hc1 hf1=>?_)
           go_wp2_with fail
           go_ret
           exact ⟨ret_int (by rw [HF.out];rfl),hB0.trans ((bt_ (W:=wr) (show Below W1.heap.size W1 wr by first | exact hB | exact hB.alloc (by omega) _) hb1).mono (by omega))⟩
      ·have hkn:k=tn:=by omega
       have HB2:=hd_ hB
       have HA2:Hid (valB Rtn.src Rtn.okB 60 l.rt=true):=by show _=_;exact valB_all HL2.out (by omega) (by rw [← hkn];exact HA.out)
       clear hB HA hkn
       go_wp2_with fail
       go_loopw [7] (fun i wr=>∃ k:Nat,k≤sn∧i=.int .i64 k∧(List.range k).all (valAt Sgt.src (sgOk l.pp) l.sg)=true∧Below W1.heap.size W1 wr) (fun i _=>sn - (intOf i).toNat)
       case atStart=>exact ⟨0,by omega,rfl,rfl,HB2.out⟩
       case round =>
        obtain ⟨k,hk,rfl,hall,hB⟩:=hrel
        have HA:=hd_ hall
        clear hall
        have hs0:w.heap.size+1≤wr.heap.size:=by have h:=hB.size;omega
        obtain ⟨g0,g1,g2,g3⟩:LedBox wr w.heap.size ⟨pA,pn,pc,rA,rn,rc,tA,tn,tc,sA,sn,sc⟩:=HBX.out.ext hB
        have hwb:w.heap.size<wr.heap.size:=by omega
        by_cases hlt:k<sn
        ·obtain ⟨b,o,s,rfl,hb,hx,hq⟩:=(Sq.ext HDs.out abS hB lr_).at_ hlt
         have HX:=hd_ hx
         clear hx
         have hbr:b<wr.heap.size:=by omega
         obtain ⟨h0,h1,h2,h3,h4,h5,h6⟩:=hq
         have hbr1:b<wr.heap.size+1:=by omega
         have hwb1:w.heap.size<wr.heap.size+1:=by omega
         have HP2:Hid (Pps (wr.alloc (.cells #[.int .i64 s.src,.int .i64 s.per,.int .i64 s.pap,.int .i64 s.leaf,.int .i64 s.day,.int .i64 s.kn,.int .i64 s.un] 38)) (wr.alloc (.cells #[.int .i64 s.src,.int .i64 s.per,.int .i64 s.pap,.int .i64 s.leaf,.int .i64 s.day,.int .i64 s.kn,.int .i64 s.un] 38)).heap.size pA pn l.pp):=by
          show Sq _ _ _ _ _ _ _
          exact (HDp.out.now abP hB).now abP (by exact bel_)
         cases hok:s.okB with
         | false =>
           have HF:Hid (R=false):=by show _=_;exact and5_4 HR.out (valB_at HL3.out hlt (valAt_bad HX.out (by simp [sgOk,hok])))
           have HV:Hid (errI s.okB 23=23):=by show _=_;rw [hok];rfl
           clear hok
           go_wp2_with fail
           (refine rg_ ?_;(repeat (go_big_quiet_step ((first | (go_at_call 17;exact Calls.grow_of (r_CheckSight_v s 23 _ HV.out))))));refine qn_ fun w1 hb1 hc1 hf1=>?_)
           go_wp2_with fail
           go_ret
           exact ⟨ret_int (by rw [HF.out];rfl),hB0.trans ((bt_ (W:=(wr.alloc (.cells #[.int .i64 s.src,.int .i64 s.per,.int .i64 s.pap,.int .i64 s.leaf,.int .i64 s.day,.int .i64 s.kn,.int .i64 s.un] 38))) (show Below W1.heap.size W1 (wr.alloc (.cells #[.int .i64 s.src,.int .i64 s.per,.int .i64 s.pap,.int .i64 s.leaf,.int .i64 s.day,.int .i64 s.kn,.int .i64 s.un] 38)) by first | exact hB | exact hB.alloc (by omega) _) hb1).mono (by omega))⟩
         | true =>
           have HV:Hid (errI s.okB 23=0):=by show _=_;rw [hok];rfl
           have HOk:=hd_ hok
           clear hok
           by_cases hk0:k=0
           ·have hk2:decide (0<k)=false:=by simp;omega
            cases hfo:folB l.pp s.pap s.leaf with
            | false =>
              have HF:Hid (R=false):=by show _=_;exact and5_4 HR.out (valB_at HL3.out hlt (valAt_bad HX.out (by simp [sgOk,hfo])))
              have HFo:=hd_ hfo
              clear hfo
              clear hk0
              go_wp2_with fail
              (refine rg_ ?_;(repeat (go_big_quiet_step ((first | (go_at_call 17;exact Calls.grow_of (r_CheckSight_v s 0 _ HV.out)) | (go_at_call_of 64 (Value.agg #[.slice pA pn pc,.slice rA rn rc,.slice tA tn tc,.slice (some ⟨b,o,none⟩) sn sc]);exact Calls.grow_all (fun g=>r_isFolio_v l.pp ⟨pA,pn,pc,rA,rn,rc,tA,tn,tc,some ⟨b,o,none⟩,sn,sc⟩ s.pap s.leaf false g.1 hpn (HP2.out.now abP g.2) HFo.out))))));refine qn_ fun w1 hb1 hc1 hf1=>?_)
              go_wp2_with fail
              go_ret
              exact ⟨ret_int (by rw [HF.out];rfl),hB0.trans ((bt_ (W:=(wr.alloc (.cells #[.int .i64 s.src,.int .i64 s.per,.int .i64 s.pap,.int .i64 s.leaf,.int .i64 s.day,.int .i64 s.kn,.int .i64 s.un] 38))) (show Below W1.heap.size W1 (wr.alloc (.cells #[.int .i64 s.src,.int .i64 s.per,.int .i64 s.pap,.int .i64 s.leaf,.int .i64 s.day,.int .i64 s.kn,.int .i64 s.un] 38)) by first | exact hB | exact hB.alloc (by omega) _) hb1).mono (by omega))⟩
            | true =>
              have HF:Hid (valAt Sgt.src (sgOk l.pp) l.sg (k)=true):=by show _=_;exact valAt_first hk0 HX.out (by simp [sgOk,HOk.out,hfo])
              have HFo:=hd_ hfo
              clear hfo
              clear hk0
              go_wp2_with fail
              (refine rg_ ?_;(repeat (go_big_quiet_step ((first | (go_at_call 17;exact Calls.grow_of (r_CheckSight_v s 0 _ HV.out)) | (go_at_call_of 64 (Value.agg #[.slice pA pn pc,.slice rA rn rc,.slice tA tn tc,.slice (some ⟨b,o,none⟩) sn sc]);exact Calls.grow_all (fun g=>r_isFolio_v l.pp ⟨pA,pn,pc,rA,rn,rc,tA,tn,tc,some ⟨b,o,none⟩,sn,sc⟩ s.pap s.leaf true g.1 hpn (HP2.out.now abP g.2) HFo.out))))));refine qn_ fun w1 hb1 hc1 hf1=>?_)
              go_wp2_with fail
              go_roundw
              case rel=>exact ⟨k+1,by omega,by go_num,val_succ HA.out HF.out,bt_ (W:=(wr.alloc (.cells #[.int .i64 s.src,.int .i64 s.per,.int .i64 s.pap,.int .i64 s.leaf,.int .i64 s.day,.int .i64 s.kn,.int .i64 s.un] 38))) (show Below W1.heap.size W1 (wr.alloc (.cells #[.int .i64 s.src,.int .i64 s.per,.int .i64 s.pap,.int .i64 s.leaf,.int .i64 s.day,.int .i64 s.kn,.int .i64 s.un] 38)) by first | exact hB | exact hB.alloc (by omega) _) hb1⟩
              case measure=>exact ms_
           ·obtain ⟨j,rfl⟩:∃ j,k=j+1:=⟨k - 1,by omega⟩
            obtain ⟨b',o',y,e',_,hy,⟨hy0,_,_,_,_,_,_⟩⟩:=(Sq.ext HDs.out abS hB lr_).at_ (k:=j) (by omega)
            obtain ⟨rfl,rfl⟩:b=b'∧o=o':=by simpa using e'
            have HY:=hd_ hy
            clear hy e' hk0
            by_cases hxy:y.src<s.src
            ·have hxd:decide (s.src≤y.src)=false:=by simp;omega
             cases hfo:folB l.pp s.pap s.leaf with
             | false =>
               have HF:Hid (R=false):=by show _=_;exact and5_4 HR.out (valB_at HL3.out hlt (valAt_bad HX.out (by simp [sgOk,hfo])))
               have HFo:=hd_ hfo
               clear hfo
               clear hxy
               go_wp2_with fail
               (refine rg_ ?_;(repeat (go_big_quiet_step ((first | (go_at_call 17;exact Calls.grow_of (r_CheckSight_v s 0 _ HV.out)) | (go_at_call_of 64 (Value.agg #[.slice pA pn pc,.slice rA rn rc,.slice tA tn tc,.slice (some ⟨b,o,none⟩) sn sc]);exact Calls.grow_all (fun g=>r_isFolio_v l.pp ⟨pA,pn,pc,rA,rn,rc,tA,tn,tc,some ⟨b,o,none⟩,sn,sc⟩ s.pap s.leaf false g.1 hpn (HP2.out.now abP g.2) HFo.out))))));refine qn_ fun w1 hb1 hc1 hf1=>?_)
               go_wp2_with fail
               go_ret
               exact ⟨ret_int (by rw [HF.out];rfl),hB0.trans ((bt_ (W:=(wr.alloc (.cells #[.int .i64 s.src,.int .i64 s.per,.int .i64 s.pap,.int .i64 s.leaf,.int .i64 s.day,.int .i64 s.kn,.int .i64 s.un] 38))) (show Below W1.heap.size W1 (wr.alloc (.cells #[.int .i64 s.src,.int .i64 s.per,.int .i64 s.pap,.int .i64 s.leaf,.int .i64 s.day,.int .i64 s.kn,.int .i64 s.un] 38)) by first | exact hB | exact hB.alloc (by omega) _) hb1).mono (by omega))⟩
             | true =>
               have HF:Hid (valAt Sgt.src (sgOk l.pp) l.sg (j+1)=true):=by show _=_;exact valAt_next HX.out HY.out (by simp [sgOk,HOk.out,hfo]) hxy
               have HFo:=hd_ hfo
               clear hfo
               clear hxy
               go_wp2_with fail
               (refine rg_ ?_;(repeat (go_big_quiet_step ((first | (go_at_call 17;exact Calls.grow_of (r_CheckSight_v s 0 _ HV.out)) | (go_at_call_of 64 (Value.agg #[.slice pA pn pc,.slice rA rn rc,.slice tA tn tc,.slice (some ⟨b,o,none⟩) sn sc]);exact Calls.grow_all (fun g=>r_isFolio_v l.pp ⟨pA,pn,pc,rA,rn,rc,tA,tn,tc,some ⟨b,o,none⟩,sn,sc⟩ s.pap s.leaf true g.1 hpn (HP2.out.now abP g.2) HFo.out))))));refine qn_ fun w1 hb1 hc1 hf1=>?_)
               go_wp2_with fail
               go_roundw
               case rel=>exact ⟨j+1+1,by omega,by go_num,val_succ HA.out HF.out,bt_ (W:=(wr.alloc (.cells #[.int .i64 s.src,.int .i64 s.per,.int .i64 s.pap,.int .i64 s.leaf,.int .i64 s.day,.int .i64 s.kn,.int .i64 s.un] 38))) (show Below W1.heap.size W1 (wr.alloc (.cells #[.int .i64 s.src,.int .i64 s.per,.int .i64 s.pap,.int .i64 s.leaf,.int .i64 s.day,.int .i64 s.kn,.int .i64 s.un] 38)) by first | exact hB | exact hB.alloc (by omega) _) hb1⟩
               case measure=>exact ms_
            ·have HF:Hid (R=false):=by show _=_;exact and5_4 HR.out (valB_at HL3.out hlt (valAt_order HX.out HY.out hxy))
             have hxd:decide (s.src≤y.src)=true:=by simp;omega
             clear hxy
             go_wp2_with fail
             (refine rg_ ?_;(repeat (go_big_quiet_step ((first | (go_at_call 17;exact Calls.grow_of (r_CheckSight_v s 0 _ HV.out))))));refine qn_ fun w1 hb1 hc1 hf1=>?_)
             go_wp2_with fail
             go_ret
             exact ⟨ret_int (by rw [HF.out];rfl),hB0.trans ((bt_ (W:=(wr.alloc (.cells #[.int .i64 s.src,.int .i64 s.per,.int .i64 s.pap,.int .i64 s.leaf,.int .i64 s.day,.int .i64 s.kn,.int .i64 s.un] 38))) (show Below W1.heap.size W1 (wr.alloc (.cells #[.int .i64 s.src,.int .i64 s.per,.int .i64 s.pap,.int .i64 s.leaf,.int .i64 s.day,.int .i64 s.kn,.int .i64 s.un] 38)) by first | exact hB | exact hB.alloc (by omega) _) hb1).mono (by omega))⟩
        ·have hkn:k=sn:=by omega
         have HB3:=hd_ hB
         have HA3:Hid (valB Sgt.src (sgOk l.pp) 60 l.sg=true):=by show _=_;exact valB_all HL3.out (by omega) (by rw [← hkn];exact HA.out)
         clear hB HA hkn
         go_wp2_with (first | (go_at_call 66;go_loud (refine (r_sources l ⟨pA,pn,pc,rA,rn,rc,tA,tn,tc,sA,sn,sc⟩ _ (by show rn≤60;omega) (by show tn≤60;omega) (by show sn≤60;omega) (HD1.out.now HB3.out)).mono ?_;rintro e w5 ⟨v5,rfl,hb5,ho5⟩);obtain ⟨A5,c5,rfl,_⟩:=own_slice ho5;have HB5:=hd_ (bt_ HB3.out hb5)) | (go_at_call 97;refine (r_apart2 (srcL l) A5 _ c5 _ (by rw [srcL_len HL1.out HL2.out HL3.out];omega) (Rd.of_own ho5)).mono ?_;rintro e w6 ⟨rfl,hb6⟩;have HB6:=hd_ (bt_ HB5.out hb6)))
         all_goals
          go_ret
          refine ⟨ret_int ?_,hB0.trans (HB6.out.mono (by omega))⟩
          rw [← HR.out,HA0.out,HA1.out,HA2.out,HA3.out]
          simp_all [errI]
end Go.Proofs.YtoiompoapikkbaaGreat
