/- Layer 2 of the texts that LoanPlaces takes: Pajq. -/
import Derived.Test.YtoiompoapikkbaaGreatPagq
set_option linter.unusedVariables false
set_option linter.unusedSimpArgs false
set_option maxHeartbeats 16000000
namespace Go.Proofs.YtoiompoapikkbaaGreat
open Go.RowKit
theorem infoI2:(Tryz.prog.info? 3).map (fun i=>(i.zero,i.size,i.bytes))=some (some (.int .i64 0),1,8):=by kernel_rfl
def intL (xs:List Int):List Value:=xs.map fun x=>.int .i64 x
def srcL (l:Led):List Int:=l.rc.map Rcp.src ++ (l.rt.map Rtn.src ++ l.sg.map Sgt.src)
def RetO (xs:List Int) (w:World) (e:Ending) (w':World):Prop:=∃ v,e=.returned v∧Below w.heap.size w w'∧w'.ownsRow w.heap.size 3 1 v xs.length (intL xs)
theorem own_dn {W:World} {base base' size n:Nat} {e:TypeId} {v:Value} {xs:List Value} (h:W.ownsRow base e size v n xs) (hb:base'≤base):W.ownsRow base' e size v n xs :=
 ⟨h.1,h.2.imp id fun ⟨g,cap,cur,hv,hB,r⟩=>⟨g,cap,cur,hv,Nat.le_trans hb hB,r⟩⟩
theorem OwnB.below {w W W0 w2:World} {B n:Nat} {e:TypeId} {v:Value} {xs:List Value} (hB:Below B w W) (ho:W0.ownsRow B e 1 v n xs) (hs:B≤W.heap.size) (hg:W.grownBy w2 v.ownBlock):Below B w w2 :=
 hB.grown hg hs fun k ek=>own_base ho ek
theorem RetO.mk' {l:Led} {w wr W:World} {a b c:Nat} {v:Value} (h:wr.ownsRow (w.heap.size+1) 3 1 v (a+b+c) (intL (srcL l))) (hB:Below (w.heap.size+1) W wr) (h1:l.rc.length=a) (h2:l.rt.length=b) (h3:l.sg.length=c) (hW:Below w.heap.size w W:=by exact bel_):RetO (srcL l) w (.returned v) wr:=by
 refine ⟨v,rfl,hW.trans (hB.mono (Nat.le_succ _)),?_⟩
 have e:(srcL l).length=a+b+c:=by simp [srcL,h1,h2,h3];omega
 rw [e]
 exact own_dn h (Nat.le_succ _)
set_option maxRecDepth 10000 in
theorem p_sources (l:Led) (x:Lsl) (w:World) (hr:x.rn≤60) (ht:x.tn≤60) (hs:x.sn≤60) (hd:LedIn w w.heap.size x l) :
 Calls Tryz.prog 58 #[.agg #[.slice x.pA x.pn x.pc,.slice x.rA x.rn x.rc,.slice x.tA x.tn x.tc,.slice x.sA x.sn x.sc]] w (RetO (srcL l) w):=by
 obtain ⟨i0,hi,hz0,hz1,hz2⟩:=info_parts infoI2
 have hl1:=hd.r.len
 have hl2:=hd.t.len
 have hl3:=hd.s.len
 have HD:=hd_ (hd.now ((Below.refl w.heap.size w).alloc lr_ (.cells #[.slice x.pA x.pn x.pc,.slice x.rA x.rn x.rc,.slice x.tA x.tn x.tc,.slice x.sA x.sn x.sc] 27)))
 have HL1:=hd_ hl1
 have HL2:=hd_ hl2
 have HL3:=hd_ hl3
 clear hl1 hl2 hl3 hd
 go_enter Tryz.func58,Tryz.ntmps58
 go_wp2
 go_loopw [3,13] (fun v i wr=>∃ k:Nat,k≤x.rn∧i=.int .i64 k∧wr.ownsRow (w.heap.size+1) 3 1 v (0+k) (intL ([] ++ (l.rc.take k).map Rcp.src))∧Below (w.heap.size+1) (w.alloc (.cells #[.slice x.pA x.pn x.pc,.slice x.rA x.rn x.rc,.slice x.tA x.tn x.tc,.slice x.sA x.sn x.sc] 27)) wr) (fun _ i _=>x.rn - (intOf i).toNat)
 case atStart=>exact ⟨0,by omega,rfl,World.ownsRow_nil _ _ _ _,by exact bel_⟩
 case round =>
  obtain ⟨k1,hk0,rfl,hown,hB⟩:=hrel
  have hs0:w.heap.size+1≤wr.heap.size:=by have h:=hB.size;simp at h;omega
  obtain ⟨hcw,hfw⟩:=bcell (W:=(w.alloc (.cells #[.slice x.pA x.pn x.pc,.slice x.rA x.rn x.rc,.slice x.tA x.tn x.tc,.slice x.sA x.sn x.sc] 27))) (by simpa using hB)
  by_cases hlt:k1<x.rn
  ·obtain ⟨b,o,e,hA,hb,he,hq⟩:=(Sq.ext HD.out.r abR (w':=wr) (by simpa using hB) lr_).at_ hlt
   obtain ⟨A1,n1,c1,⟨a0,a1,a2,a3,a4,a5,a6⟩,_⟩:=hq
   have hbr:b<wr.heap.size:=by simp at hb;omega
   have HE:Hid (intL ([] ++ (l.rc.take (k1+1)).map Rcp.src)=intL ([] ++ (l.rc.take k1).map Rcp.src) ++ [.int .i64 e.src]):=by
    show _=_
    rw [take_snoc_some he]
    simp [intL]
   have HO:=hd_ hown
   have HB:=hd_ hB
   clear he hB
   go_wp2_with (at_builtin;refine wpList_append_own _ rfl (.tmp 17) (.tmp 20) 30 rfl (w.heap.size+1) 3 i0 _ 1 8 Tryz.underlying30 hi hz0 hz1 hz2 rfl (by decide) _ _ _ rfl ((hown.alloc _).alloc _) ⟨wr.heap.size+1,0,none⟩ 1 1 [.int .i64 e.src] rfl rfl ?c1 ?c2 ?c3 ?c4 ?c5 ?_;rotate_left 5;intro v' w2 hown2 hgrow2 _)
   case c1=>intro j u hj;match j,hj with | 0,hj=>simp at hj;subst hj;simp [Addr.add]
   case c2=>simp [Value.oneCell']
   case c3=>unfold maxLen;omega
   case c4=>omega
   case c5=>simp;omega
   go_roundw
   case rel =>
    (repeat apply Exists.intro)
    refine ⟨⟨k1+1,by omega,by go_num,by rw [HE.out];exact hown2,OwnB.below (by have:=HB.out;exact bel_) (HO.out) (by simp;omega) hgrow2⟩,?_⟩
    first | rfl | (rw [hA] <;> rfl) | rw [hA]
   case measure=>exact ms_
  ·have hkn:Hid (k1=x.rn):=by show _=_;omega
   have HBW:=hd_ hB
   have HOW:=hown
   rw [hkn.out,List.take_of_length_le (by rw [HL1.out];exact lr_)] at HOW
   have HOW:=hd_ HOW
   clear hB hown
   go_wp2
   go_loopw [3,26] (fun v i wr=>∃ k:Nat,k≤x.tn∧i=.int .i64 k∧wr.ownsRow (w.heap.size+1) 3 1 v (0+x.rn+k) (intL (([] ++ l.rc.map Rcp.src) ++ (l.rt.take k).map Rtn.src))∧Below (w.heap.size+1) (w.alloc (.cells #[.slice x.pA x.pn x.pc,.slice x.rA x.rn x.rc,.slice x.tA x.tn x.tc,.slice x.sA x.sn x.sc] 27)) wr) (fun _ i _=>x.tn - (intOf i).toNat)
   case atStart=>exact ⟨0,by omega,rfl,by simpa using HOW.out,HBW.out⟩
   case round =>
    obtain ⟨k2,hk1,rfl,hown,hB⟩:=hrel
    have hs0:w.heap.size+1≤wr.heap.size:=by have h:=hB.size;simp at h;omega
    obtain ⟨hcw,hfw⟩:=bcell (W:=(w.alloc (.cells #[.slice x.pA x.pn x.pc,.slice x.rA x.rn x.rc,.slice x.tA x.tn x.tc,.slice x.sA x.sn x.sc] 27))) (by simpa using hB)
    by_cases hlt:k2<x.tn
    ·obtain ⟨b,o,e,hA,hb,he,hq⟩:=(Sq.ext HD.out.t abT (w':=wr) (by simpa using hB) lr_).at_ hlt
     obtain ⟨A1,n1,c1,⟨a0,a1,a2,a3,a4,a5,a6,a7⟩,_⟩:=hq
     have hbr:b<wr.heap.size:=by simp at hb;omega
     have HE:Hid (intL (([] ++ l.rc.map Rcp.src) ++ (l.rt.take (k2+1)).map Rtn.src)=intL (([] ++ l.rc.map Rcp.src) ++ (l.rt.take k2).map Rtn.src) ++ [.int .i64 e.src]):=by
      show _=_
      rw [take_snoc_some he]
      simp [intL]
     have HO:=hd_ hown
     have HB:=hd_ hB
     clear he hB
     go_wp2_with (at_builtin;refine wpList_append_own _ rfl (.tmp 30) (.tmp 33) 30 rfl (w.heap.size+1) 3 i0 _ 1 8 Tryz.underlying30 hi hz0 hz1 hz2 rfl (by decide) _ _ _ rfl ((hown.alloc _).alloc _) ⟨wr.heap.size+1,0,none⟩ 1 1 [.int .i64 e.src] rfl rfl ?c1 ?c2 ?c3 ?c4 ?c5 ?_;rotate_left 5;intro v' w2 hown2 hgrow2 _)
     case c1=>intro j u hj;match j,hj with | 0,hj=>simp at hj;subst hj;simp [Addr.add]
     case c2=>simp [Value.oneCell']
     case c3=>unfold maxLen;omega
     case c4=>omega
     case c5=>simp;omega
     go_roundw
     case rel =>
      (repeat apply Exists.intro)
      refine ⟨⟨k2+1,by omega,by go_num,by rw [HE.out];exact hown2,OwnB.below (by have:=HB.out;exact bel_) (HO.out) (by simp;omega) hgrow2⟩,?_⟩
      first | rfl | (rw [hA] <;> rfl) | rw [hA]
     case measure=>exact ms_
    ·have hkn:Hid (k2=x.tn):=by show _=_;omega
     have HBW:=hd_ hB
     have HOW:=hown
     rw [hkn.out,List.take_of_length_le (by rw [HL2.out];exact lr_)] at HOW
     have HOW:=hd_ HOW
     clear hB hown
     go_wp2
     go_loopw [3,39] (fun v i wr=>∃ k:Nat,k≤x.sn∧i=.int .i64 k∧wr.ownsRow (w.heap.size+1) 3 1 v (0+x.rn+x.tn+k) (intL ((([] ++ l.rc.map Rcp.src) ++ l.rt.map Rtn.src) ++ (l.sg.take k).map Sgt.src))∧Below (w.heap.size+1) (w.alloc (.cells #[.slice x.pA x.pn x.pc,.slice x.rA x.rn x.rc,.slice x.tA x.tn x.tc,.slice x.sA x.sn x.sc] 27)) wr) (fun _ i _=>x.sn - (intOf i).toNat)
     case atStart=>exact ⟨0,by omega,rfl,by simpa using HOW.out,HBW.out⟩
     case round =>
      obtain ⟨k3,hk2,rfl,hown,hB⟩:=hrel
      have hs0:w.heap.size+1≤wr.heap.size:=by have h:=hB.size;simp at h;omega
      obtain ⟨hcw,hfw⟩:=bcell (W:=(w.alloc (.cells #[.slice x.pA x.pn x.pc,.slice x.rA x.rn x.rc,.slice x.tA x.tn x.tc,.slice x.sA x.sn x.sc] 27))) (by simpa using hB)
      by_cases hlt:k3<x.sn
      ·obtain ⟨b,o,e,hA,hb,he,hq⟩:=(Sq.ext HD.out.s abS (w':=wr) (by simpa using hB) lr_).at_ hlt
       obtain ⟨a0,a1,a2,a3,a4,a5,a6⟩:=hq
       have hbr:b<wr.heap.size:=by simp at hb;omega
       have HE:Hid (intL ((([] ++ l.rc.map Rcp.src) ++ l.rt.map Rtn.src) ++ (l.sg.take (k3+1)).map Sgt.src)=intL ((([] ++ l.rc.map Rcp.src) ++ l.rt.map Rtn.src) ++ (l.sg.take k3).map Sgt.src) ++ [.int .i64 e.src]):=by
        show _=_
        rw [take_snoc_some he]
        simp [intL]
       have HO:=hd_ hown
       have HB:=hd_ hB
       clear he hB
       go_wp2_with (at_builtin;refine wpList_append_own _ rfl (.tmp 43) (.tmp 46) 30 rfl (w.heap.size+1) 3 i0 _ 1 8 Tryz.underlying30 hi hz0 hz1 hz2 rfl (by decide) _ _ _ rfl ((hown.alloc _).alloc _) ⟨wr.heap.size+1,0,none⟩ 1 1 [.int .i64 e.src] rfl rfl ?c1 ?c2 ?c3 ?c4 ?c5 ?_;rotate_left 5;intro v' w2 hown2 hgrow2 _)
       case c1=>intro j u hj;match j,hj with | 0,hj=>simp at hj;subst hj;simp [Addr.add]
       case c2=>simp [Value.oneCell']
       case c3=>unfold maxLen;omega
       case c4=>omega
       case c5=>simp;omega
       go_roundw
       case rel =>
        (repeat apply Exists.intro)
        refine ⟨⟨k3+1,by omega,by go_num,by rw [HE.out];exact hown2,OwnB.below (by have:=HB.out;exact bel_) (HO.out) (by simp;omega) hgrow2⟩,?_⟩
        first | rfl | (rw [hA] <;> rfl) | rw [hA]
       case measure=>exact ms_
      ·have hkn:Hid (k3=x.sn):=by show _=_;omega
       have HBW:=hd_ hB
       have HOW:=hown
       rw [hkn.out,List.take_of_length_le (by rw [HL3.out];exact lr_)] at HOW
       have HOW:=hd_ HOW
       clear hB hown
       go_wp2
       go_ret
       exact RetO.mk' (by simpa [srcL] using HOW.out) HBW.out HL1.out HL2.out HL3.out
set_option maxRecDepth 10000 in
theorem r_sources (l:Led) (x:Lsl) (w:World) (hr:x.rn≤60) (ht:x.tn≤60) (hs:x.sn≤60) (hd:LedIn w w.heap.size x l) :
 Calls Tryz.prog 66 #[.agg #[.slice x.pA x.pn x.pc,.slice x.rA x.rn x.rc,.slice x.tA x.tn x.tc,.slice x.sA x.sn x.sc]] w (RetO (srcL l) w):=by
 obtain ⟨i0,hi,hz0,hz1,hz2⟩:=info_parts infoI2
 have hl1:=hd.r.len
 have hl2:=hd.t.len
 have hl3:=hd.s.len
 have HD:=hd_ (hd.now ((Below.refl w.heap.size w).alloc lr_ (.cells #[.slice x.pA x.pn x.pc,.slice x.rA x.rn x.rc,.slice x.tA x.tn x.tc,.slice x.sA x.sn x.sc] 27)))
 have HL1:=hd_ hl1
 have HL2:=hd_ hl2
 have HL3:=hd_ hl3
 clear hl1 hl2 hl3 hd
 go_enter Tryz.func66,Tryz.ntmps66
 go_wp2
 go_loopw [3,4] (fun v i wr=>∃ k:Nat,k≤x.rn∧i=.int .i64 k∧wr.ownsRow (w.heap.size+1) 3 1 v (0+k) (intL ([] ++ (l.rc.take k).map Rcp.src))∧Below (w.heap.size+1) (w.alloc (.cells #[.slice x.pA x.pn x.pc,.slice x.rA x.rn x.rc,.slice x.tA x.tn x.tc,.slice x.sA x.sn x.sc] 27)) wr) (fun _ i _=>x.rn - (intOf i).toNat)
 case atStart=>exact ⟨0,by omega,rfl,World.ownsRow_nil _ _ _ _,by exact bel_⟩
 case round =>
  obtain ⟨k1,hk0,rfl,hown,hB⟩:=hrel
  have hs0:w.heap.size+1≤wr.heap.size:=by have h:=hB.size;simp at h;omega
  obtain ⟨hcw,hfw⟩:=bcell (W:=(w.alloc (.cells #[.slice x.pA x.pn x.pc,.slice x.rA x.rn x.rc,.slice x.tA x.tn x.tc,.slice x.sA x.sn x.sc] 27))) (by simpa using hB)
  by_cases hlt:k1<x.rn
  ·obtain ⟨b,o,e,hA,hb,he,hq⟩:=(Sq.ext HD.out.r abR (w':=wr) (by simpa using hB) lr_).at_ hlt
   obtain ⟨A1,n1,c1,⟨a0,a1,a2,a3,a4,a5,a6⟩,_⟩:=hq
   have hbr:b<wr.heap.size:=by simp at hb;omega
   have HE:Hid (intL ([] ++ (l.rc.take (k1+1)).map Rcp.src)=intL ([] ++ (l.rc.take k1).map Rcp.src) ++ [.int .i64 e.src]):=by
    show _=_
    rw [take_snoc_some he]
    simp [intL]
   have HO:=hd_ hown
   have HB:=hd_ hB
   clear he hB
   go_wp2_with (at_builtin;refine wpList_append_own _ rfl (.tmp 14) (.tmp 21) 30 rfl (w.heap.size+1) 3 i0 _ 1 8 Tryz.underlying30 hi hz0 hz1 hz2 rfl (by decide) _ _ _ rfl (hown.alloc _) ⟨wr.heap.size,0,none⟩ 1 1 [.int .i64 e.src] rfl rfl ?c1 ?c2 ?c3 ?c4 ?c5 ?_;rotate_left 5;intro v' w2 hown2 hgrow2 _)
   case c1=>intro j u hj;match j,hj with | 0,hj=>simp at hj;subst hj;simp [Addr.add]
   case c2=>simp [Value.oneCell']
   case c3=>unfold maxLen;omega
   case c4=>omega
   case c5=>simp;omega
   go_roundw
   case rel =>
    (repeat apply Exists.intro)
    refine ⟨⟨k1+1,by omega,by go_num,by rw [HE.out];exact hown2,OwnB.below (by have:=HB.out;exact bel_) (HO.out) (by simp;omega) hgrow2⟩,?_⟩
    first | rfl | (rw [hA] <;> rfl) | rw [hA]
   case measure=>exact ms_
  ·have hkn:Hid (k1=x.rn):=by show _=_;omega
   have HBW:=hd_ hB
   have HOW:=hown
   rw [hkn.out,List.take_of_length_le (by rw [HL1.out];exact lr_)] at HOW
   have HOW:=hd_ HOW
   clear hB hown
   go_wp2
   go_loopw [3,5] (fun v i wr=>∃ k:Nat,k≤x.tn∧i=.int .i64 k∧wr.ownsRow (w.heap.size+1) 3 1 v (0+x.rn+k) (intL (([] ++ l.rc.map Rcp.src) ++ (l.rt.take k).map Rtn.src))∧Below (w.heap.size+1) (w.alloc (.cells #[.slice x.pA x.pn x.pc,.slice x.rA x.rn x.rc,.slice x.tA x.tn x.tc,.slice x.sA x.sn x.sc] 27)) wr) (fun _ i _=>x.tn - (intOf i).toNat)
   case atStart=>exact ⟨0,by omega,rfl,by simpa using HOW.out,HBW.out⟩
   case round =>
    obtain ⟨k2,hk1,rfl,hown,hB⟩:=hrel
    have hs0:w.heap.size+1≤wr.heap.size:=by have h:=hB.size;simp at h;omega
    obtain ⟨hcw,hfw⟩:=bcell (W:=(w.alloc (.cells #[.slice x.pA x.pn x.pc,.slice x.rA x.rn x.rc,.slice x.tA x.tn x.tc,.slice x.sA x.sn x.sc] 27))) (by simpa using hB)
    by_cases hlt:k2<x.tn
    ·obtain ⟨b,o,e,hA,hb,he,hq⟩:=(Sq.ext HD.out.t abT (w':=wr) (by simpa using hB) lr_).at_ hlt
     obtain ⟨A1,n1,c1,⟨a0,a1,a2,a3,a4,a5,a6,a7⟩,_⟩:=hq
     have hbr:b<wr.heap.size:=by simp at hb;omega
     have HE:Hid (intL (([] ++ l.rc.map Rcp.src) ++ (l.rt.take (k2+1)).map Rtn.src)=intL (([] ++ l.rc.map Rcp.src) ++ (l.rt.take k2).map Rtn.src) ++ [.int .i64 e.src]):=by
      show _=_
      rw [take_snoc_some he]
      simp [intL]
     have HO:=hd_ hown
     have HB:=hd_ hB
     clear he hB
     go_wp2_with (at_builtin;refine wpList_append_own _ rfl (.tmp 30) (.tmp 37) 30 rfl (w.heap.size+1) 3 i0 _ 1 8 Tryz.underlying30 hi hz0 hz1 hz2 rfl (by decide) _ _ _ rfl (hown.alloc _) ⟨wr.heap.size,0,none⟩ 1 1 [.int .i64 e.src] rfl rfl ?c1 ?c2 ?c3 ?c4 ?c5 ?_;rotate_left 5;intro v' w2 hown2 hgrow2 _)
     case c1=>intro j u hj;match j,hj with | 0,hj=>simp at hj;subst hj;simp [Addr.add]
     case c2=>simp [Value.oneCell']
     case c3=>unfold maxLen;omega
     case c4=>omega
     case c5=>simp;omega
     go_roundw
     case rel =>
      (repeat apply Exists.intro)
      refine ⟨⟨k2+1,by omega,by go_num,by rw [HE.out];exact hown2,OwnB.below (by have:=HB.out;exact bel_) (HO.out) (by simp;omega) hgrow2⟩,?_⟩
      first | rfl | (rw [hA] <;> rfl) | rw [hA]
     case measure=>exact ms_
    ·have hkn:Hid (k2=x.tn):=by show _=_;omega
     have HBW:=hd_ hB
     have HOW:=hown
     rw [hkn.out,List.take_of_length_le (by rw [HL2.out];exact lr_)] at HOW
     have HOW:=hd_ HOW
     clear hB hown
     go_wp2
     go_loopw [3,6] (fun v i wr=>∃ k:Nat,k≤x.sn∧i=.int .i64 k∧wr.ownsRow (w.heap.size+1) 3 1 v (0+x.rn+x.tn+k) (intL ((([] ++ l.rc.map Rcp.src) ++ l.rt.map Rtn.src) ++ (l.sg.take k).map Sgt.src))∧Below (w.heap.size+1) (w.alloc (.cells #[.slice x.pA x.pn x.pc,.slice x.rA x.rn x.rc,.slice x.tA x.tn x.tc,.slice x.sA x.sn x.sc] 27)) wr) (fun _ i _=>x.sn - (intOf i).toNat)
     case atStart=>exact ⟨0,by omega,rfl,by simpa using HOW.out,HBW.out⟩
     case round =>
      obtain ⟨k3,hk2,rfl,hown,hB⟩:=hrel
      have hs0:w.heap.size+1≤wr.heap.size:=by have h:=hB.size;simp at h;omega
      obtain ⟨hcw,hfw⟩:=bcell (W:=(w.alloc (.cells #[.slice x.pA x.pn x.pc,.slice x.rA x.rn x.rc,.slice x.tA x.tn x.tc,.slice x.sA x.sn x.sc] 27))) (by simpa using hB)
      by_cases hlt:k3<x.sn
      ·obtain ⟨b,o,e,hA,hb,he,hq⟩:=(Sq.ext HD.out.s abS (w':=wr) (by simpa using hB) lr_).at_ hlt
       obtain ⟨a0,a1,a2,a3,a4,a5,a6⟩:=hq
       have hbr:b<wr.heap.size:=by simp at hb;omega
       have HE:Hid (intL ((([] ++ l.rc.map Rcp.src) ++ l.rt.map Rtn.src) ++ (l.sg.take (k3+1)).map Sgt.src)=intL ((([] ++ l.rc.map Rcp.src) ++ l.rt.map Rtn.src) ++ (l.sg.take k3).map Sgt.src) ++ [.int .i64 e.src]):=by
        show _=_
        rw [take_snoc_some he]
        simp [intL]
       have HO:=hd_ hown
       have HB:=hd_ hB
       clear he hB
       go_wp2_with (at_builtin;refine wpList_append_own _ rfl (.tmp 46) (.tmp 53) 30 rfl (w.heap.size+1) 3 i0 _ 1 8 Tryz.underlying30 hi hz0 hz1 hz2 rfl (by decide) _ _ _ rfl (hown.alloc _) ⟨wr.heap.size,0,none⟩ 1 1 [.int .i64 e.src] rfl rfl ?c1 ?c2 ?c3 ?c4 ?c5 ?_;rotate_left 5;intro v' w2 hown2 hgrow2 _)
       case c1=>intro j u hj;match j,hj with | 0,hj=>simp at hj;subst hj;simp [Addr.add]
       case c2=>simp [Value.oneCell']
       case c3=>unfold maxLen;omega
       case c4=>omega
       case c5=>simp;omega
       go_roundw
       case rel =>
        (repeat apply Exists.intro)
        refine ⟨⟨k3+1,by omega,by go_num,by rw [HE.out];exact hown2,OwnB.below (by have:=HB.out;exact bel_) (HO.out) (by simp;omega) hgrow2⟩,?_⟩
        first | rfl | (rw [hA] <;> rfl) | rw [hA]
       case measure=>exact ms_
      ·have hkn:Hid (k3=x.sn):=by show _=_;omega
       have HBW:=hd_ hB
       have HOW:=hown
       rw [hkn.out,List.take_of_length_le (by rw [HL3.out];exact lr_)] at HOW
       have HOW:=hd_ HOW
       clear hB hown
       go_wp2
       go_ret
       exact RetO.mk' (by simpa [srcL] using HOW.out) HBW.out HL1.out HL2.out HL3.out
end Go.Proofs.YtoiompoapikkbaaGreat
