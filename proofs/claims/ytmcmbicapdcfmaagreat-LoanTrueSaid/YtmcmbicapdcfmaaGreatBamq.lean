/- Layer 2 of the texts that LoanBack takes: Bamq. -/
import Derived.Test.YtmcmbicapdcfmaaGreatBahq
set_option linter.unusedVariables false
set_option linter.unusedSimpArgs false
set_option maxHeartbeats 16000000
namespace Go.Proofs.YtmcmbicapdcfmaaGreat
open Go.RowKit
theorem p_numP (x:Ppr) (w:World):Calls Tryz.prog 45 #[.agg #[.int .i64 x.id,.int .i64 x.lv]] w fun e w'=>e=.returned (.int .i64 x.id)∧Below w.heap.size w w':=by
 go_enter Tryz.func45,Tryz.ntmps45
 go_wp2
 go_ret
 exact ⟨rfl,by exact bel_⟩
theorem p_CheckPaper_ok (x:Ppr) (w:World) (h:x.okB=true):Calls Tryz.prog 46 #[.agg #[.int .i64 x.id,.int .i64 x.lv]] w fun e w'=>e=.returned (.int .i64 0)∧Below w.heap.size w w' :=
 (p_CheckPaper x w).mono fun _ _ ⟨he,hb⟩=>⟨by rw [he,h];rfl,hb⟩
theorem p_CheckPaper_no (x:Ppr) (w:World) (h:x.okB=false):Calls Tryz.prog 46 #[.agg #[.int .i64 x.id,.int .i64 x.lv]] w fun e w'=>e=.returned (.int .i64 20)∧Below w.heap.size w w' :=
 (p_CheckPaper x w).mono fun _ _ ⟨he,hb⟩=>⟨by rw [he,h];rfl,hb⟩
set_option maxRecDepth 10000 in
theorem l_areValidP (l:List Ppr) (A:Option Addr) (n c:Nat) (w:World) (hn:n≤9223372036854775807) (hd:Sq QP 2 w w.heap.size A n l) :
 Calls Tryz.prog 44 #[.slice A n c,.int .i64 12,.func (.func 45) #[] #[],.func (.func 46) #[] #[]] w fun e w'=>e=.returned (.bool (valB Ppr.id Ppr.okB 12 l))∧Below w.heap.size w w':=by
 have hlen:=hd.len
 have HD:=hd_ hd
 have HL:=hd_ hlen
 clear hd
 by_cases h30:12<n
 ·have hi30:12<(n:Int):=by omega
  clear hlen
  go_enter Tryz.func44,Tryz.ntmps44
  go_wp2
  go_ret
  exact ⟨ret_bool (by rw [valB,HL.out];simp;omega),Below.refl _ _⟩
 ·have hi30:¬ 12<(n:Int):=by omega
  clear hlen
  go_enter Tryz.func44,Tryz.ntmps44
  go_wp2
  go_loopw [17] (fun i wr=>∃ k:Nat,k≤n∧i=.int .i64 k∧(List.range k).all (valAt Ppr.id Ppr.okB l)=true∧Below w.heap.size w wr) (fun i _=>n - (intOf i).toNat)
  case atStart=>exact ⟨0,by omega,rfl,rfl,Below.refl _ _⟩
  case round =>
   obtain ⟨k,hk,rfl,hall,hB⟩:=hrel
   have HA:=hd_ hall
   clear hall
   by_cases hlt:k<n
   ·have hs0:w.heap.size≤wr.heap.size:=hB.size
    obtain ⟨b,o,x,rfl,hb,hx,hq⟩:=(HD.out.ext abP hB lr_).at_ hlt
    have HX:=hd_ hx
    clear hx
    obtain ⟨a0,a1⟩:=hq
    have hbr:b<wr.heap.size:=by omega
    have hbr1:b<wr.heap.size+1:=by omega
    cases hin:x.okB with
    | false =>
      have hf:Hid (valAt Ppr.id Ppr.okB l k=false):=by
       show _=_
       cases k with
       | zero=>simp [valAt,HX.out,hin]
       | succ j=>cases hj:l[j]? <;> simp [valAt,HX.out,hin,hj]
      have HO:=hd_ hin
      clear hin
      go_wp2_with fail
      (refine rg_ ?_;(repeat (go_big_quiet_step ((first | (go_at_call 46;exact Calls.grow_of (p_CheckPaper_no x _ HO.out))))));refine qn_ fun w1 hb1 hc1 hf1=>?_)
      go_wp2_with fail
      go_ret
      exact ⟨ret_bool (by rw [valB,val_false (by rw [HL.out];exact hlt) hf.out];simp),by
       have:Below w.heap.size w (wr.alloc (.cells #[.int .i64 x.id,.int .i64 x.lv] 38)):=by exact bel_
       exact bt_ this hb1⟩
    | true =>
      have HO:=hd_ hin
      clear hin
      by_cases hk0:k=0
      ·have hf:Hid (valAt Ppr.id Ppr.okB l k=true):=by
        show _=_
        have h1:=HX.out
        rw [hk0] at h1 ⊢
        simp [valAt,h1,HO.out]
       have hk2:decide (0<k)=false:=by simp;omega
       clear hk0
       go_wp2_with fail
       (refine rg_ ?_;(repeat (go_big_quiet_step ((first | (go_at_call 46;exact Calls.grow_of (p_CheckPaper_ok x _ HO.out))))));refine qn_ fun w1 hb1 hc1 hf1=>?_)
       go_wp2_with fail
       go_roundw
       case rel=>exact ⟨k+1,by omega,by go_num,val_succ HA.out hf.out,by
        have:Below w.heap.size w (wr.alloc (.cells #[.int .i64 x.id,.int .i64 x.lv] 38)):=by exact bel_
        exact bt_ this hb1⟩
       case measure=>exact ms_
      ·obtain ⟨j,rfl⟩:∃ j,k=j+1:=⟨k - 1,by omega⟩
       obtain ⟨b',o',y,e',_,hy,hq2⟩:=(HD.out.ext abP hB lr_).at_ (k:=j) (by omega)
       obtain ⟨rfl,rfl⟩:b=b'∧o=o':=by simpa using e'
       obtain ⟨p0,p1⟩:=hq2
       have HY:=hd_ hy
       clear hy e' hk0
       by_cases hxy:y.id<x.id
       ·have hf:Hid (valAt Ppr.id Ppr.okB l (j+1)=true):=by show _=_;simp [valAt,HX.out,HY.out,HO.out,hxy]
        have hxd:decide (x.id≤y.id)=false:=by simp;omega
        clear hxy
        go_wp2_with fail
        (refine rg_ ?_;(repeat (go_big_quiet_step ((first | (go_at_call 46;exact Calls.grow_of (p_CheckPaper_ok x _ HO.out)) | (go_at_call_of 45 (Value.agg #[.int .i64 y.id,.int .i64 y.lv]);exact Calls.grow_of (p_numP y _)) | (go_at_call_of 45 (Value.agg #[.int .i64 x.id,.int .i64 x.lv]);exact Calls.grow_of (p_numP x _))))));refine qn_ fun w1 hb1 hc1 hf1=>?_)
        go_wp2_with fail
        go_roundw
        case rel=>exact ⟨j+1+1,by omega,by go_num,val_succ HA.out hf.out,by
         have:Below w.heap.size w (wr.alloc (.cells #[.int .i64 x.id,.int .i64 x.lv] 38)):=by exact bel_
         exact bt_ this hb1⟩
        case measure=>exact ms_
       ·have hf:Hid (valAt Ppr.id Ppr.okB l (j+1)=false):=by show _=_;simp [valAt,HX.out,HY.out,HO.out];omega
        have hxd:decide (x.id≤y.id)=true:=by simp;omega
        clear hxy
        go_wp2_with fail
        (refine rg_ ?_;(repeat (go_big_quiet_step ((first | (go_at_call 46;exact Calls.grow_of (p_CheckPaper_ok x _ HO.out)) | (go_at_call_of 45 (Value.agg #[.int .i64 y.id,.int .i64 y.lv]);exact Calls.grow_of (p_numP y _)) | (go_at_call_of 45 (Value.agg #[.int .i64 x.id,.int .i64 x.lv]);exact Calls.grow_of (p_numP x _))))));refine qn_ fun w1 hb1 hc1 hf1=>?_)
        go_wp2_with fail
        go_ret
        exact ⟨ret_bool (by rw [valB,val_false (by rw [HL.out];exact hlt) hf.out];simp),by
         have:Below w.heap.size w (wr.alloc (.cells #[.int .i64 x.id,.int .i64 x.lv] 38)):=by exact bel_
         exact bt_ this hb1⟩
   ·have hkn:k=n:=by omega
    have HKn:=hd_ hkn
    clear hkn
    go_wp2
    go_ret
    have h1:l.length=k:=by rw [HL.out,HKn.out]
    exact ⟨ret_bool (by rw [valB,h1,HA.out];simp;omega),hB⟩
theorem p_numS (x:Sgt) (w:World):Calls Tryz.prog 54 #[.agg #[.int .i64 x.src,.int .i64 x.per,.int .i64 x.pap,.int .i64 x.leaf,.int .i64 x.day,.int .i64 x.kn,.int .i64 x.un]] w fun e w'=>e=.returned (.int .i64 x.src)∧Below w.heap.size w w':=by
 go_enter Tryz.func54,Tryz.ntmps54
 go_wp2
 go_ret
 exact ⟨rfl,by exact bel_⟩
theorem p_CheckSight_ok (x:Sgt) (w:World) (h:x.okB=true):Calls Tryz.prog 55 #[.agg #[.int .i64 x.src,.int .i64 x.per,.int .i64 x.pap,.int .i64 x.leaf,.int .i64 x.day,.int .i64 x.kn,.int .i64 x.un]] w fun e w'=>e=.returned (.int .i64 0)∧Below w.heap.size w w' :=
 (p_CheckSight x w).mono fun _ _ ⟨he,hb⟩=>⟨by rw [he,h];rfl,hb⟩
theorem p_CheckSight_no (x:Sgt) (w:World) (h:x.okB=false):Calls Tryz.prog 55 #[.agg #[.int .i64 x.src,.int .i64 x.per,.int .i64 x.pap,.int .i64 x.leaf,.int .i64 x.day,.int .i64 x.kn,.int .i64 x.un]] w fun e w'=>e=.returned (.int .i64 23)∧Below w.heap.size w w' :=
 (p_CheckSight x w).mono fun _ _ ⟨he,hb⟩=>⟨by rw [he,h];rfl,hb⟩
set_option maxRecDepth 10000 in
theorem l_areValidS (l:List Sgt) (A:Option Addr) (n c:Nat) (w:World) (hn:n≤9223372036854775807) (hd:Sq QS 7 w w.heap.size A n l) :
 Calls Tryz.prog 53 #[.slice A n c,.int .i64 60,.func (.func 54) #[] #[],.func (.func 55) #[] #[]] w fun e w'=>e=.returned (.bool (valB Sgt.src Sgt.okB 60 l))∧Below w.heap.size w w':=by
 have hlen:=hd.len
 have HD:=hd_ hd
 have HL:=hd_ hlen
 clear hd
 by_cases h30:60<n
 ·have hi30:60<(n:Int):=by omega
  clear hlen
  go_enter Tryz.func53,Tryz.ntmps53
  go_wp2
  go_ret
  exact ⟨ret_bool (by rw [valB,HL.out];simp;omega),Below.refl _ _⟩
 ·have hi30:¬ 60<(n:Int):=by omega
  clear hlen
  go_enter Tryz.func53,Tryz.ntmps53
  go_wp2
  go_loopw [17] (fun i wr=>∃ k:Nat,k≤n∧i=.int .i64 k∧(List.range k).all (valAt Sgt.src Sgt.okB l)=true∧Below w.heap.size w wr) (fun i _=>n - (intOf i).toNat)
  case atStart=>exact ⟨0,by omega,rfl,rfl,Below.refl _ _⟩
  case round =>
   obtain ⟨k,hk,rfl,hall,hB⟩:=hrel
   have HA:=hd_ hall
   clear hall
   by_cases hlt:k<n
   ·have hs0:w.heap.size≤wr.heap.size:=hB.size
    obtain ⟨b,o,x,rfl,hb,hx,hq⟩:=(HD.out.ext abS hB lr_).at_ hlt
    have HX:=hd_ hx
    clear hx
    obtain ⟨a0,a1,a2,a3,a4,a5,a6⟩:=hq
    have hbr:b<wr.heap.size:=by omega
    have hbr1:b<wr.heap.size+1:=by omega
    cases hin:x.okB with
    | false =>
      have hf:Hid (valAt Sgt.src Sgt.okB l k=false):=by
       show _=_
       cases k with
       | zero=>simp [valAt,HX.out,hin]
       | succ j=>cases hj:l[j]? <;> simp [valAt,HX.out,hin,hj]
      have HO:=hd_ hin
      clear hin
      go_wp2_with fail
      (refine rg_ ?_;(repeat (go_big_quiet_step ((first | (go_at_call 55;exact Calls.grow_of (p_CheckSight_no x _ HO.out))))));refine qn_ fun w1 hb1 hc1 hf1=>?_)
      go_wp2_with fail
      go_ret
      exact ⟨ret_bool (by rw [valB,val_false (by rw [HL.out];exact hlt) hf.out];simp),by
       have:Below w.heap.size w (wr.alloc (.cells #[.int .i64 x.src,.int .i64 x.per,.int .i64 x.pap,.int .i64 x.leaf,.int .i64 x.day,.int .i64 x.kn,.int .i64 x.un] 70)):=by exact bel_
       exact bt_ this hb1⟩
    | true =>
      have HO:=hd_ hin
      clear hin
      by_cases hk0:k=0
      ·have hf:Hid (valAt Sgt.src Sgt.okB l k=true):=by
        show _=_
        have h1:=HX.out
        rw [hk0] at h1 ⊢
        simp [valAt,h1,HO.out]
       have hk2:decide (0<k)=false:=by simp;omega
       clear hk0
       go_wp2_with fail
       (refine rg_ ?_;(repeat (go_big_quiet_step ((first | (go_at_call 55;exact Calls.grow_of (p_CheckSight_ok x _ HO.out))))));refine qn_ fun w1 hb1 hc1 hf1=>?_)
       go_wp2_with fail
       go_roundw
       case rel=>exact ⟨k+1,by omega,by go_num,val_succ HA.out hf.out,by
        have:Below w.heap.size w (wr.alloc (.cells #[.int .i64 x.src,.int .i64 x.per,.int .i64 x.pap,.int .i64 x.leaf,.int .i64 x.day,.int .i64 x.kn,.int .i64 x.un] 70)):=by exact bel_
        exact bt_ this hb1⟩
       case measure=>exact ms_
      ·obtain ⟨j,rfl⟩:∃ j,k=j+1:=⟨k - 1,by omega⟩
       obtain ⟨b',o',y,e',_,hy,hq2⟩:=(HD.out.ext abS hB lr_).at_ (k:=j) (by omega)
       obtain ⟨rfl,rfl⟩:b=b'∧o=o':=by simpa using e'
       obtain ⟨p0,p1,p2,p3,p4,p5,p6⟩:=hq2
       have HY:=hd_ hy
       clear hy e' hk0
       by_cases hxy:y.src<x.src
       ·have hf:Hid (valAt Sgt.src Sgt.okB l (j+1)=true):=by show _=_;simp [valAt,HX.out,HY.out,HO.out,hxy]
        have hxd:decide (x.src≤y.src)=false:=by simp;omega
        clear hxy
        go_wp2_with fail
        (refine rg_ ?_;(repeat (go_big_quiet_step ((first | (go_at_call 55;exact Calls.grow_of (p_CheckSight_ok x _ HO.out)) | (go_at_call_of 54 (Value.agg #[.int .i64 y.src,.int .i64 y.per,.int .i64 y.pap,.int .i64 y.leaf,.int .i64 y.day,.int .i64 y.kn,.int .i64 y.un]);exact Calls.grow_of (p_numS y _)) | (go_at_call_of 54 (Value.agg #[.int .i64 x.src,.int .i64 x.per,.int .i64 x.pap,.int .i64 x.leaf,.int .i64 x.day,.int .i64 x.kn,.int .i64 x.un]);exact Calls.grow_of (p_numS x _))))));refine qn_ fun w1 hb1 hc1 hf1=>?_)
        go_wp2_with fail
        go_roundw
        case rel=>exact ⟨j+1+1,by omega,by go_num,val_succ HA.out hf.out,by
         have:Below w.heap.size w (wr.alloc (.cells #[.int .i64 x.src,.int .i64 x.per,.int .i64 x.pap,.int .i64 x.leaf,.int .i64 x.day,.int .i64 x.kn,.int .i64 x.un] 70)):=by exact bel_
         exact bt_ this hb1⟩
        case measure=>exact ms_
       ·have hf:Hid (valAt Sgt.src Sgt.okB l (j+1)=false):=by show _=_;simp [valAt,HX.out,HY.out,HO.out];omega
        have hxd:decide (x.src≤y.src)=true:=by simp;omega
        clear hxy
        go_wp2_with fail
        (refine rg_ ?_;(repeat (go_big_quiet_step ((first | (go_at_call 55;exact Calls.grow_of (p_CheckSight_ok x _ HO.out)) | (go_at_call_of 54 (Value.agg #[.int .i64 y.src,.int .i64 y.per,.int .i64 y.pap,.int .i64 y.leaf,.int .i64 y.day,.int .i64 y.kn,.int .i64 y.un]);exact Calls.grow_of (p_numS y _)) | (go_at_call_of 54 (Value.agg #[.int .i64 x.src,.int .i64 x.per,.int .i64 x.pap,.int .i64 x.leaf,.int .i64 x.day,.int .i64 x.kn,.int .i64 x.un]);exact Calls.grow_of (p_numS x _))))));refine qn_ fun w1 hb1 hc1 hf1=>?_)
        go_wp2_with fail
        go_ret
        exact ⟨ret_bool (by rw [valB,val_false (by rw [HL.out];exact hlt) hf.out];simp),by
         have:Below w.heap.size w (wr.alloc (.cells #[.int .i64 x.src,.int .i64 x.per,.int .i64 x.pap,.int .i64 x.leaf,.int .i64 x.day,.int .i64 x.kn,.int .i64 x.un] 70)):=by exact bel_
         exact bt_ this hb1⟩
   ·have hkn:k=n:=by omega
    have HKn:=hd_ hkn
    clear hkn
    go_wp2
    go_ret
    have h1:l.length=k:=by rw [HL.out,HKn.out]
    exact ⟨ret_bool (by rw [valB,h1,HA.out];simp;omega),hB⟩
theorem p_numR (x:Rcp) (A:Option Addr) (n c:Nat) (w:World):Calls Tryz.prog 48 #[.agg #[.int .i64 x.src,.int .i64 x.bor,.int .i64 x.pap,.slice A n c,.int .i64 x.day,.int .i64 x.kn,.int .i64 x.un]] w fun e w'=>e=.returned (.int .i64 x.src)∧Below w.heap.size w w':=by
 go_enter Tryz.func48,Tryz.ntmps48
 go_wp2
 go_ret
 exact ⟨rfl,by exact bel_⟩
theorem p_CheckReceipt_ok (x:Rcp) (A:Option Addr) (n c:Nat) (w:World) (hn:n≤9223372036854775807) (hd:Is w w.heap.size A n x.lv) (h:x.okB=true):Calls Tryz.prog 49 #[.agg #[.int .i64 x.src,.int .i64 x.bor,.int .i64 x.pap,.slice A n c,.int .i64 x.day,.int .i64 x.kn,.int .i64 x.un]] w fun e w'=>e=.returned (.int .i64 0)∧Below w.heap.size w w' :=
 (p_CheckReceipt x A n c w hn hd).mono fun _ _ ⟨he,hb⟩=>⟨by rw [he,h];rfl,hb⟩
theorem p_CheckReceipt_no (x:Rcp) (A:Option Addr) (n c:Nat) (w:World) (hn:n≤9223372036854775807) (hd:Is w w.heap.size A n x.lv) (h:x.okB=false):Calls Tryz.prog 49 #[.agg #[.int .i64 x.src,.int .i64 x.bor,.int .i64 x.pap,.slice A n c,.int .i64 x.day,.int .i64 x.kn,.int .i64 x.un]] w fun e w'=>e=.returned (.int .i64 21)∧Below w.heap.size w w' :=
 (p_CheckReceipt x A n c w hn hd).mono fun _ _ ⟨he,hb⟩=>⟨by rw [he,h];rfl,hb⟩
set_option maxRecDepth 10000 in
theorem l_areValidR (l:List Rcp) (A:Option Addr) (n c:Nat) (w:World) (hn:n≤9223372036854775807) (hd:Sq QR 7 w w.heap.size A n l) :
 Calls Tryz.prog 47 #[.slice A n c,.int .i64 60,.func (.func 48) #[] #[],.func (.func 49) #[] #[]] w fun e w'=>e=.returned (.bool (valB Rcp.src Rcp.okB 60 l))∧Below w.heap.size w w':=by
 have hlen:=hd.len
 have HD:=hd_ hd
 have HL:=hd_ hlen
 clear hd
 by_cases h30:60<n
 ·have hi30:60<(n:Int):=by omega
  clear hlen
  go_enter Tryz.func47,Tryz.ntmps47
  go_wp2
  go_ret
  exact ⟨ret_bool (by rw [valB,HL.out];simp;omega),Below.refl _ _⟩
 ·have hi30:¬ 60<(n:Int):=by omega
  clear hlen
  go_enter Tryz.func47,Tryz.ntmps47
  go_wp2
  go_loopw [17] (fun i wr=>∃ k:Nat,k≤n∧i=.int .i64 k∧(List.range k).all (valAt Rcp.src Rcp.okB l)=true∧Below w.heap.size w wr) (fun i _=>n - (intOf i).toNat)
  case atStart=>exact ⟨0,by omega,rfl,rfl,Below.refl _ _⟩
  case round =>
   obtain ⟨k,hk,rfl,hall,hB⟩:=hrel
   have HA:=hd_ hall
   clear hall
   by_cases hlt:k<n
   ·have hs0:w.heap.size≤wr.heap.size:=hB.size
    obtain ⟨b,o,x,rfl,hb,hx,hq⟩:=(HD.out.ext abR hB lr_).at_ hlt
    have HX:=hd_ hx
    clear hx
    obtain ⟨A1,n1,c1,⟨a0,a1,a2,a3,a4,a5,a6⟩,hi1,hc1,hm1⟩:=hq
    have hbr:b<wr.heap.size:=by omega
    have hbr1:b<wr.heap.size+1:=by omega
    have hn1:n1≤9223372036854775807:=by unfold maxLen at hm1;omega
    have HI:Hid (Is (wr.alloc (.cells #[.int .i64 x.src,.int .i64 x.bor,.int .i64 x.pap,.slice A1 n1 c1,.int .i64 x.day,.int .i64 x.kn,.int .i64 x.un] 79)) (wr.alloc (.cells #[.int .i64 x.src,.int .i64 x.bor,.int .i64 x.pap,.slice A1 n1 c1,.int .i64 x.day,.int .i64 x.kn,.int .i64 x.un] 79)).heap.size A1 n1 x.lv):=by
     show Is _ _ _ _ _
     exact (hi1.more hs0).now ((Below.refl _ _).alloc lr_ _)
    clear hi1
    cases hin:x.okB with
    | false =>
      have hf:Hid (valAt Rcp.src Rcp.okB l k=false):=by
       show _=_
       cases k with
       | zero=>simp [valAt,HX.out,hin]
       | succ j=>cases hj:l[j]? <;> simp [valAt,HX.out,hin,hj]
      have HO:=hd_ hin
      clear hin
      go_wp2_with fail
      (refine rg_ ?_;(repeat (go_big_quiet_step ((first | (go_at_call_of 49 (Value.agg #[.int .i64 x.src,.int .i64 x.bor,.int .i64 x.pap,.slice A1 n1 c1,.int .i64 x.day,.int .i64 x.kn,.int .i64 x.un]);exact Calls.grow_all (fun g=>p_CheckReceipt_no x A1 n1 c1 g.1 hn1 (HI.out.now g.2) HO.out))))));refine qn_ fun w1 hb1 hc1 hf1=>?_)
      go_wp2_with fail
      go_ret
      exact ⟨ret_bool (by rw [valB,val_false (by rw [HL.out];exact hlt) hf.out];simp),by
       have:Below w.heap.size w (wr.alloc (.cells #[.int .i64 x.src,.int .i64 x.bor,.int .i64 x.pap,.slice A1 n1 c1,.int .i64 x.day,.int .i64 x.kn,.int .i64 x.un] 79)):=by exact bel_
       exact bt_ this hb1⟩
    | true =>
      have HO:=hd_ hin
      clear hin
      by_cases hk0:k=0
      ·have hf:Hid (valAt Rcp.src Rcp.okB l k=true):=by
        show _=_
        have h1:=HX.out
        rw [hk0] at h1 ⊢
        simp [valAt,h1,HO.out]
       have hk2:decide (0<k)=false:=by simp;omega
       clear hk0
       go_wp2_with fail
       (refine rg_ ?_;(repeat (go_big_quiet_step ((first | (go_at_call_of 49 (Value.agg #[.int .i64 x.src,.int .i64 x.bor,.int .i64 x.pap,.slice A1 n1 c1,.int .i64 x.day,.int .i64 x.kn,.int .i64 x.un]);exact Calls.grow_all (fun g=>p_CheckReceipt_ok x A1 n1 c1 g.1 hn1 (HI.out.now g.2) HO.out))))));refine qn_ fun w1 hb1 hc1 hf1=>?_)
       go_wp2_with fail
       go_roundw
       case rel=>exact ⟨k+1,by omega,by go_num,val_succ HA.out hf.out,by
        have:Below w.heap.size w (wr.alloc (.cells #[.int .i64 x.src,.int .i64 x.bor,.int .i64 x.pap,.slice A1 n1 c1,.int .i64 x.day,.int .i64 x.kn,.int .i64 x.un] 79)):=by exact bel_
        exact bt_ this hb1⟩
       case measure=>exact ms_
      ·obtain ⟨j,rfl⟩:∃ j,k=j+1:=⟨k - 1,by omega⟩
       obtain ⟨b',o',y,e',_,hy,hq2⟩:=(HD.out.ext abR hB lr_).at_ (k:=j) (by omega)
       obtain ⟨rfl,rfl⟩:b=b'∧o=o':=by simpa using e'
       obtain ⟨A2,n2,c2,⟨p0,p1,p2,p3,p4,p5,p6⟩,_,_,_⟩:=hq2
       have HY:=hd_ hy
       clear hy e' hk0
       by_cases hxy:y.src<x.src
       ·have hf:Hid (valAt Rcp.src Rcp.okB l (j+1)=true):=by show _=_;simp [valAt,HX.out,HY.out,HO.out,hxy]
        have hxd:decide (x.src≤y.src)=false:=by simp;omega
        clear hxy
        go_wp2_with fail
        (refine rg_ ?_;(repeat (go_big_quiet_step ((first | (go_at_call_of 49 (Value.agg #[.int .i64 x.src,.int .i64 x.bor,.int .i64 x.pap,.slice A1 n1 c1,.int .i64 x.day,.int .i64 x.kn,.int .i64 x.un]);exact Calls.grow_all (fun g=>p_CheckReceipt_ok x A1 n1 c1 g.1 hn1 (HI.out.now g.2) HO.out)) | (go_at_call_of 48 (Value.agg #[.int .i64 y.src,.int .i64 y.bor,.int .i64 y.pap,.slice A2 n2 c2,.int .i64 y.day,.int .i64 y.kn,.int .i64 y.un]);exact Calls.grow_of (p_numR y A2 n2 c2 _)) | (go_at_call_of 48 (Value.agg #[.int .i64 x.src,.int .i64 x.bor,.int .i64 x.pap,.slice A1 n1 c1,.int .i64 x.day,.int .i64 x.kn,.int .i64 x.un]);exact Calls.grow_of (p_numR x A1 n1 c1 _))))));refine qn_ fun w1 hb1 hc1 hf1=>?_)
        go_wp2_with fail
        go_roundw
        case rel=>exact ⟨j+1+1,by omega,by go_num,val_succ HA.out hf.out,by
         have:Below w.heap.size w (wr.alloc (.cells #[.int .i64 x.src,.int .i64 x.bor,.int .i64 x.pap,.slice A1 n1 c1,.int .i64 x.day,.int .i64 x.kn,.int .i64 x.un] 79)):=by exact bel_
         exact bt_ this hb1⟩
        case measure=>exact ms_
       ·have hf:Hid (valAt Rcp.src Rcp.okB l (j+1)=false):=by show _=_;simp [valAt,HX.out,HY.out,HO.out];omega
        have hxd:decide (x.src≤y.src)=true:=by simp;omega
        clear hxy
        go_wp2_with fail
        (refine rg_ ?_;(repeat (go_big_quiet_step ((first | (go_at_call_of 49 (Value.agg #[.int .i64 x.src,.int .i64 x.bor,.int .i64 x.pap,.slice A1 n1 c1,.int .i64 x.day,.int .i64 x.kn,.int .i64 x.un]);exact Calls.grow_all (fun g=>p_CheckReceipt_ok x A1 n1 c1 g.1 hn1 (HI.out.now g.2) HO.out)) | (go_at_call_of 48 (Value.agg #[.int .i64 y.src,.int .i64 y.bor,.int .i64 y.pap,.slice A2 n2 c2,.int .i64 y.day,.int .i64 y.kn,.int .i64 y.un]);exact Calls.grow_of (p_numR y A2 n2 c2 _)) | (go_at_call_of 48 (Value.agg #[.int .i64 x.src,.int .i64 x.bor,.int .i64 x.pap,.slice A1 n1 c1,.int .i64 x.day,.int .i64 x.kn,.int .i64 x.un]);exact Calls.grow_of (p_numR x A1 n1 c1 _))))));refine qn_ fun w1 hb1 hc1 hf1=>?_)
        go_wp2_with fail
        go_ret
        exact ⟨ret_bool (by rw [valB,val_false (by rw [HL.out];exact hlt) hf.out];simp),by
         have:Below w.heap.size w (wr.alloc (.cells #[.int .i64 x.src,.int .i64 x.bor,.int .i64 x.pap,.slice A1 n1 c1,.int .i64 x.day,.int .i64 x.kn,.int .i64 x.un] 79)):=by exact bel_
         exact bt_ this hb1⟩
   ·have hkn:k=n:=by omega
    have HKn:=hd_ hkn
    clear hkn
    go_wp2
    go_ret
    have h1:l.length=k:=by rw [HL.out,HKn.out]
    exact ⟨ret_bool (by rw [valB,h1,HA.out];simp;omega),hB⟩
theorem p_numT (x:Rtn) (A:Option Addr) (n c:Nat) (w:World):Calls Tryz.prog 51 #[.agg #[.int .i64 x.src,.int .i64 x.rcp,.int .i64 x.per,.slice A n c,.int .i64 x.lo,.int .i64 x.hi,.int .i64 x.kn,.int .i64 x.un]] w fun e w'=>e=.returned (.int .i64 x.src)∧Below w.heap.size w w':=by
 go_enter Tryz.func51,Tryz.ntmps51
 go_wp2
 go_ret
 exact ⟨rfl,by exact bel_⟩
theorem p_CheckReturn_ok (x:Rtn) (A:Option Addr) (n c:Nat) (w:World) (hn:n≤9223372036854775807) (hd:Is w w.heap.size A n x.lv) (h:x.okB=true):Calls Tryz.prog 52 #[.agg #[.int .i64 x.src,.int .i64 x.rcp,.int .i64 x.per,.slice A n c,.int .i64 x.lo,.int .i64 x.hi,.int .i64 x.kn,.int .i64 x.un]] w fun e w'=>e=.returned (.int .i64 0)∧Below w.heap.size w w' :=
 (p_CheckReturn x A n c w hn hd).mono fun _ _ ⟨he,hb⟩=>⟨by rw [he,h];rfl,hb⟩
theorem p_CheckReturn_no (x:Rtn) (A:Option Addr) (n c:Nat) (w:World) (hn:n≤9223372036854775807) (hd:Is w w.heap.size A n x.lv) (h:x.okB=false):Calls Tryz.prog 52 #[.agg #[.int .i64 x.src,.int .i64 x.rcp,.int .i64 x.per,.slice A n c,.int .i64 x.lo,.int .i64 x.hi,.int .i64 x.kn,.int .i64 x.un]] w fun e w'=>e=.returned (.int .i64 22)∧Below w.heap.size w w' :=
 (p_CheckReturn x A n c w hn hd).mono fun _ _ ⟨he,hb⟩=>⟨by rw [he,h];rfl,hb⟩
set_option maxRecDepth 10000 in
theorem l_areValidT (l:List Rtn) (A:Option Addr) (n c:Nat) (w:World) (hn:n≤9223372036854775807) (hd:Sq QT 8 w w.heap.size A n l) :
 Calls Tryz.prog 50 #[.slice A n c,.int .i64 60,.func (.func 51) #[] #[],.func (.func 52) #[] #[]] w fun e w'=>e=.returned (.bool (valB Rtn.src Rtn.okB 60 l))∧Below w.heap.size w w':=by
 have hlen:=hd.len
 have HD:=hd_ hd
 have HL:=hd_ hlen
 clear hd
 by_cases h30:60<n
 ·have hi30:60<(n:Int):=by omega
  clear hlen
  go_enter Tryz.func50,Tryz.ntmps50
  go_wp2
  go_ret
  exact ⟨ret_bool (by rw [valB,HL.out];simp;omega),Below.refl _ _⟩
 ·have hi30:¬ 60<(n:Int):=by omega
  clear hlen
  go_enter Tryz.func50,Tryz.ntmps50
  go_wp2
  go_loopw [17] (fun i wr=>∃ k:Nat,k≤n∧i=.int .i64 k∧(List.range k).all (valAt Rtn.src Rtn.okB l)=true∧Below w.heap.size w wr) (fun i _=>n - (intOf i).toNat)
  case atStart=>exact ⟨0,by omega,rfl,rfl,Below.refl _ _⟩
  case round =>
   obtain ⟨k,hk,rfl,hall,hB⟩:=hrel
   have HA:=hd_ hall
   clear hall
   by_cases hlt:k<n
   ·have hs0:w.heap.size≤wr.heap.size:=hB.size
    obtain ⟨b,o,x,rfl,hb,hx,hq⟩:=(HD.out.ext abT hB lr_).at_ hlt
    have HX:=hd_ hx
    clear hx
    obtain ⟨A1,n1,c1,⟨a0,a1,a2,a3,a4,a5,a6,a7⟩,hi1,hc1,hm1⟩:=hq
    have hbr:b<wr.heap.size:=by omega
    have hbr1:b<wr.heap.size+1:=by omega
    have hn1:n1≤9223372036854775807:=by unfold maxLen at hm1;omega
    have HI:Hid (Is (wr.alloc (.cells #[.int .i64 x.src,.int .i64 x.rcp,.int .i64 x.per,.slice A1 n1 c1,.int .i64 x.lo,.int .i64 x.hi,.int .i64 x.kn,.int .i64 x.un] 75)) (wr.alloc (.cells #[.int .i64 x.src,.int .i64 x.rcp,.int .i64 x.per,.slice A1 n1 c1,.int .i64 x.lo,.int .i64 x.hi,.int .i64 x.kn,.int .i64 x.un] 75)).heap.size A1 n1 x.lv):=by
     show Is _ _ _ _ _
     exact (hi1.more hs0).now ((Below.refl _ _).alloc lr_ _)
    clear hi1
    cases hin:x.okB with
    | false =>
      have hf:Hid (valAt Rtn.src Rtn.okB l k=false):=by
       show _=_
       cases k with
       | zero=>simp [valAt,HX.out,hin]
       | succ j=>cases hj:l[j]? <;> simp [valAt,HX.out,hin,hj]
      have HO:=hd_ hin
      clear hin
      go_wp2_with fail
      (refine rg_ ?_;(repeat (go_big_quiet_step ((first | (go_at_call_of 52 (Value.agg #[.int .i64 x.src,.int .i64 x.rcp,.int .i64 x.per,.slice A1 n1 c1,.int .i64 x.lo,.int .i64 x.hi,.int .i64 x.kn,.int .i64 x.un]);exact Calls.grow_all (fun g=>p_CheckReturn_no x A1 n1 c1 g.1 hn1 (HI.out.now g.2) HO.out))))));refine qn_ fun w1 hb1 hc1 hf1=>?_)
      go_wp2_with fail
      go_ret
      exact ⟨ret_bool (by rw [valB,val_false (by rw [HL.out];exact hlt) hf.out];simp),by
       have:Below w.heap.size w (wr.alloc (.cells #[.int .i64 x.src,.int .i64 x.rcp,.int .i64 x.per,.slice A1 n1 c1,.int .i64 x.lo,.int .i64 x.hi,.int .i64 x.kn,.int .i64 x.un] 75)):=by exact bel_
       exact bt_ this hb1⟩
    | true =>
      have HO:=hd_ hin
      clear hin
      by_cases hk0:k=0
      ·have hf:Hid (valAt Rtn.src Rtn.okB l k=true):=by
        show _=_
        have h1:=HX.out
        rw [hk0] at h1 ⊢
        simp [valAt,h1,HO.out]
       have hk2:decide (0<k)=false:=by simp;omega
       clear hk0
       go_wp2_with fail
       (refine rg_ ?_;(repeat (go_big_quiet_step ((first | (go_at_call_of 52 (Value.agg #[.int .i64 x.src,.int .i64 x.rcp,.int .i64 x.per,.slice A1 n1 c1,.int .i64 x.lo,.int .i64 x.hi,.int .i64 x.kn,.int .i64 x.un]);exact Calls.grow_all (fun g=>p_CheckReturn_ok x A1 n1 c1 g.1 hn1 (HI.out.now g.2) HO.out))))));refine qn_ fun w1 hb1 hc1 hf1=>?_)
       go_wp2_with fail
       go_roundw
       case rel=>exact ⟨k+1,by omega,by go_num,val_succ HA.out hf.out,by
        have:Below w.heap.size w (wr.alloc (.cells #[.int .i64 x.src,.int .i64 x.rcp,.int .i64 x.per,.slice A1 n1 c1,.int .i64 x.lo,.int .i64 x.hi,.int .i64 x.kn,.int .i64 x.un] 75)):=by exact bel_
        exact bt_ this hb1⟩
       case measure=>exact ms_
      ·obtain ⟨j,rfl⟩:∃ j,k=j+1:=⟨k - 1,by omega⟩
       obtain ⟨b',o',y,e',_,hy,hq2⟩:=(HD.out.ext abT hB lr_).at_ (k:=j) (by omega)
       obtain ⟨rfl,rfl⟩:b=b'∧o=o':=by simpa using e'
       obtain ⟨A2,n2,c2,⟨p0,p1,p2,p3,p4,p5,p6,p7⟩,_,_,_⟩:=hq2
       have HY:=hd_ hy
       clear hy e' hk0
       by_cases hxy:y.src<x.src
       ·have hf:Hid (valAt Rtn.src Rtn.okB l (j+1)=true):=by show _=_;simp [valAt,HX.out,HY.out,HO.out,hxy]
        have hxd:decide (x.src≤y.src)=false:=by simp;omega
        clear hxy
        go_wp2_with fail
        (refine rg_ ?_;(repeat (go_big_quiet_step ((first | (go_at_call_of 52 (Value.agg #[.int .i64 x.src,.int .i64 x.rcp,.int .i64 x.per,.slice A1 n1 c1,.int .i64 x.lo,.int .i64 x.hi,.int .i64 x.kn,.int .i64 x.un]);exact Calls.grow_all (fun g=>p_CheckReturn_ok x A1 n1 c1 g.1 hn1 (HI.out.now g.2) HO.out)) | (go_at_call_of 51 (Value.agg #[.int .i64 y.src,.int .i64 y.rcp,.int .i64 y.per,.slice A2 n2 c2,.int .i64 y.lo,.int .i64 y.hi,.int .i64 y.kn,.int .i64 y.un]);exact Calls.grow_of (p_numT y A2 n2 c2 _)) | (go_at_call_of 51 (Value.agg #[.int .i64 x.src,.int .i64 x.rcp,.int .i64 x.per,.slice A1 n1 c1,.int .i64 x.lo,.int .i64 x.hi,.int .i64 x.kn,.int .i64 x.un]);exact Calls.grow_of (p_numT x A1 n1 c1 _))))));refine qn_ fun w1 hb1 hc1 hf1=>?_)
        go_wp2_with fail
        go_roundw
        case rel=>exact ⟨j+1+1,by omega,by go_num,val_succ HA.out hf.out,by
         have:Below w.heap.size w (wr.alloc (.cells #[.int .i64 x.src,.int .i64 x.rcp,.int .i64 x.per,.slice A1 n1 c1,.int .i64 x.lo,.int .i64 x.hi,.int .i64 x.kn,.int .i64 x.un] 75)):=by exact bel_
         exact bt_ this hb1⟩
        case measure=>exact ms_
       ·have hf:Hid (valAt Rtn.src Rtn.okB l (j+1)=false):=by show _=_;simp [valAt,HX.out,HY.out,HO.out];omega
        have hxd:decide (x.src≤y.src)=true:=by simp;omega
        clear hxy
        go_wp2_with fail
        (refine rg_ ?_;(repeat (go_big_quiet_step ((first | (go_at_call_of 52 (Value.agg #[.int .i64 x.src,.int .i64 x.rcp,.int .i64 x.per,.slice A1 n1 c1,.int .i64 x.lo,.int .i64 x.hi,.int .i64 x.kn,.int .i64 x.un]);exact Calls.grow_all (fun g=>p_CheckReturn_ok x A1 n1 c1 g.1 hn1 (HI.out.now g.2) HO.out)) | (go_at_call_of 51 (Value.agg #[.int .i64 y.src,.int .i64 y.rcp,.int .i64 y.per,.slice A2 n2 c2,.int .i64 y.lo,.int .i64 y.hi,.int .i64 y.kn,.int .i64 y.un]);exact Calls.grow_of (p_numT y A2 n2 c2 _)) | (go_at_call_of 51 (Value.agg #[.int .i64 x.src,.int .i64 x.rcp,.int .i64 x.per,.slice A1 n1 c1,.int .i64 x.lo,.int .i64 x.hi,.int .i64 x.kn,.int .i64 x.un]);exact Calls.grow_of (p_numT x A1 n1 c1 _))))));refine qn_ fun w1 hb1 hc1 hf1=>?_)
        go_wp2_with fail
        go_ret
        exact ⟨ret_bool (by rw [valB,val_false (by rw [HL.out];exact hlt) hf.out];simp),by
         have:Below w.heap.size w (wr.alloc (.cells #[.int .i64 x.src,.int .i64 x.rcp,.int .i64 x.per,.slice A1 n1 c1,.int .i64 x.lo,.int .i64 x.hi,.int .i64 x.kn,.int .i64 x.un] 75)):=by exact bel_
         exact bt_ this hb1⟩
   ·have hkn:k=n:=by omega
    have HKn:=hd_ hkn
    clear hkn
    go_wp2
    go_ret
    have h1:l.length=k:=by rw [HL.out,HKn.out]
    exact ⟨ret_bool (by rw [valB,h1,HA.out];simp;omega),hB⟩
end Go.Proofs.YtmcmbicapdcfmaaGreat
