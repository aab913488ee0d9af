/- Layer 2 of the texts that the statements over histories take: Paiq. -/
import Derived.Test.YtmcmbicapdcfmaaGreatLqp
import Derived.Test.YtmcmbicapdcfmaaGreatPagq
import Derived.Shelf.Slices.CompactI
import Derived.Shelf.Slices.In.SortNone
import Derived.Shelf.Sort.Plain
set_option linter.unusedVariables false
set_option linter.unusedSimpArgs false
set_option maxHeartbeats 16000000
namespace Go.Proofs
open Go.Shelf
end Go.Proofs
namespace Go.Proofs.YtmcmbicapdcfmaaGreat
open Go.RowKit
theorem infoI2:(Tryz.prog.info? 3).map (fun i=>(i.zero,i.size,i.bytes))=some (some (.int .i64 0),1,8):=by kernel_rfl
def intL (xs:List Int):List Value:=xs.map fun x=>.int .i64 x
def srcL (l:Led):List Int:=l.rc.map Rcp.src ++ (l.rt.map Rtn.src ++ l.sg.map Sgt.src)
def RetO (xs:List Int) (w:World) (e:Ending) (w':World):Prop:=∃ v,e=.returned v∧Below w.heap.size w w'∧w'.ownsRow w.heap.size 3 1 v xs.length (intL xs)
theorem own_dn {W:World} {base base' size n:Nat} {e:TypeId} {v:Value} {xs:List Value} (h:W.ownsRow base e size v n xs) (hb:base'≤base):W.ownsRow base' e size v n xs :=
 ⟨h.1,h.2.imp id fun ⟨g,cap,cur,hv,hB,r⟩=>⟨g,cap,cur,hv,Nat.le_trans hb hB,r⟩⟩
theorem OwnB.below {w W W0 w2:World} {B n:Nat} {e:TypeId} {v:Value} {xs:List Value} (hB:Below B w W) (ho:W0.ownsRow B e 1 v n xs) (hs:B≤W.heap.size) (hg:W.grownBy w2 v.ownBlock):Below B w w2 :=
 hB.grown hg hs fun k ek=>own_base ho ek
theorem RetO.mk' {l:Led} {w wr W:World} {a b c:Nat} {v:Value} (h:wr.ownsRow (w.heap.size+1) 3 1 v (a+b+c) (intL (srcL l))) (hB:Below (w.heap.size+1) W wr) (h1:l.rc.length=a) (h2:l.rt.length=b) (h3:l.sg.length=c) (hW:Below w.heap.size w W:=by exact bel_):RetO (srcL l) w (.returned v) wr:=by
 refine ⟨v,rfl,hW.trans (hB.mono (Nat.le_succ _)),?_⟩
 have e:(srcL l).length=a+b+c:=by simp [srcL,h1,h2,h3];omega
 rw [e]
 exact own_dn h (Nat.le_succ _)
set_option maxRecDepth 10000 in
theorem p_sources (l:Led) (x:Lsl) (w:World) (hr:x.rn≤60) (ht:x.tn≤60) (hs:x.sn≤60) (hd:LedIn w w.heap.size x l) :
 Calls Tryz.prog 88 #[.agg #[.slice x.pA x.pn x.pc,.slice x.rA x.rn x.rc,.slice x.tA x.tn x.tc,.slice x.sA x.sn x.sc]] w (RetO (srcL l) w):=by
 obtain ⟨i0,hi,hz0,hz1,hz2⟩:=info_parts infoI2
 have hl1:=hd.r.len
 have hl2:=hd.t.len
 have hl3:=hd.s.len
 have HD:=hd_ (hd.now ((Below.refl w.heap.size w).alloc lr_ (.cells #[.slice x.pA x.pn x.pc,.slice x.rA x.rn x.rc,.slice x.tA x.tn x.tc,.slice x.sA x.sn x.sc] 32)))
 have HL1:=hd_ hl1
 have HL2:=hd_ hl2
 have HL3:=hd_ hl3
 clear hl1 hl2 hl3 hd
 go_enter Tryz.func88,Tryz.ntmps88
 go_wp2
 go_loopw [3,13] (fun v i wr=>∃ k:Nat,k≤x.rn∧i=.int .i64 k∧wr.ownsRow (w.heap.size+1) 3 1 v (0+k) (intL ([] ++ (l.rc.take k).map Rcp.src))∧Below (w.heap.size+1) (w.alloc (.cells #[.slice x.pA x.pn x.pc,.slice x.rA x.rn x.rc,.slice x.tA x.tn x.tc,.slice x.sA x.sn x.sc] 32)) wr) (fun _ i _=>x.rn - (intOf i).toNat)
 case atStart=>exact ⟨0,by omega,rfl,World.ownsRow_nil _ _ _ _,by exact bel_⟩
 case round =>
  obtain ⟨k1,hk0,rfl,hown,hB⟩:=hrel
  have hs0:w.heap.size+1≤wr.heap.size:=by have h:=hB.size;simp at h;omega
  obtain ⟨hcw,hfw⟩:=bcell (W:=(w.alloc (.cells #[.slice x.pA x.pn x.pc,.slice x.rA x.rn x.rc,.slice x.tA x.tn x.tc,.slice x.sA x.sn x.sc] 32))) (by simpa using hB)
  by_cases hlt:k1<x.rn
  ·obtain ⟨b,o,e,hA,hb,he,hq⟩:=(Sq.ext HD.out.r abR (w':=wr) (by simpa using hB) lr_).at_ hlt
   obtain ⟨A1,n1,c1,⟨a0,a1,a2,a3,a4,a5,a6⟩,_⟩:=hq
   have hbr:b<wr.heap.size:=by simp at hb;omega
   have HE:Hid (intL ([] ++ (l.rc.take (k1+1)).map Rcp.src)=intL ([] ++ (l.rc.take k1).map Rcp.src) ++ [.int .i64 e.src]):=by
    show _=_
    rw [take_snoc_some he]
    simp [intL]
   have HO:=hd_ hown
   have HB:=hd_ hB
   clear he hB
   go_wp2_with (at_builtin;refine wpList_append_own _ rfl (.tmp 17) (.tmp 20) 33 rfl (w.heap.size+1) 3 i0 _ 1 8 Tryz.underlying33 hi hz0 hz1 hz2 rfl (by decide) _ _ _ rfl ((hown.alloc _).alloc _) ⟨wr.heap.size+1,0,none⟩ 1 1 [.int .i64 e.src] rfl rfl ?c1 ?c2 ?c3 ?c4 ?c5 ?_;rotate_left 5;intro v' w2 hown2 hgrow2 _)
   case c1=>intro j u hj;match j,hj with | 0,hj=>simp at hj;subst hj;simp [Addr.add]
   case c2=>simp [Value.oneCell']
   case c3=>unfold maxLen;omega
   case c4=>omega
   case c5=>simp;omega
   go_roundw
   case rel =>
    (repeat apply Exists.intro)
    refine ⟨⟨k1+1,by omega,by go_num,by rw [HE.out];exact hown2,OwnB.below (by have:=HB.out;exact bel_) (HO.out) (by simp;omega) hgrow2⟩,?_⟩
    first | rfl | (rw [hA] <;> rfl) | rw [hA]
   case measure=>exact ms_
  ·have hkn:Hid (k1=x.rn):=by show _=_;omega
   have HBW:=hd_ hB
   have HOW:=hown
   rw [hkn.out,List.take_of_length_le (by rw [HL1.out];exact lr_)] at HOW
   have HOW:=hd_ HOW
   clear hB hown
   go_wp2
   go_loopw [3,26] (fun v i wr=>∃ k:Nat,k≤x.tn∧i=.int .i64 k∧wr.ownsRow (w.heap.size+1) 3 1 v (0+x.rn+k) (intL (([] ++ l.rc.map Rcp.src) ++ (l.rt.take k).map Rtn.src))∧Below (w.heap.size+1) (w.alloc (.cells #[.slice x.pA x.pn x.pc,.slice x.rA x.rn x.rc,.slice x.tA x.tn x.tc,.slice x.sA x.sn x.sc] 32)) wr) (fun _ i _=>x.tn - (intOf i).toNat)
   case atStart=>exact ⟨0,by omega,rfl,by simpa using HOW.out,HBW.out⟩
   case round =>
    obtain ⟨k2,hk1,rfl,hown,hB⟩:=hrel
    have hs0:w.heap.size+1≤wr.heap.size:=by have h:=hB.size;simp at h;omega
    obtain ⟨hcw,hfw⟩:=bcell (W:=(w.alloc (.cells #[.slice x.pA x.pn x.pc,.slice x.rA x.rn x.rc,.slice x.tA x.tn x.tc,.slice x.sA x.sn x.sc] 32))) (by simpa using hB)
    by_cases hlt:k2<x.tn
    ·obtain ⟨b,o,e,hA,hb,he,hq⟩:=(Sq.ext HD.out.t abT (w':=wr) (by simpa using hB) lr_).at_ hlt
     obtain ⟨A1,n1,c1,⟨a0,a1,a2,a3,a4,a5,a6,a7⟩,_⟩:=hq
     have hbr:b<wr.heap.size:=by simp at hb;omega
     have HE:Hid (intL (([] ++ l.rc.map Rcp.src) ++ (l.rt.take (k2+1)).map Rtn.src)=intL (([] ++ l.rc.map Rcp.src) ++ (l.rt.take k2).map Rtn.src) ++ [.int .i64 e.src]):=by
      show _=_
      rw [take_snoc_some he]
      simp [intL]
     have HO:=hd_ hown
     have HB:=hd_ hB
     clear he hB
     go_wp2_with (at_builtin;refine wpList_append_own _ rfl (.tmp 30) (.tmp 33) 33 rfl (w.heap.size+1) 3 i0 _ 1 8 Tryz.underlying33 hi hz0 hz1 hz2 rfl (by decide) _ _ _ rfl ((hown.alloc _).alloc _) ⟨wr.heap.size+1,0,none⟩ 1 1 [.int .i64 e.src] rfl rfl ?c1 ?c2 ?c3 ?c4 ?c5 ?_;rotate_left 5;intro v' w2 hown2 hgrow2 _)
     case c1=>intro j u hj;match j,hj with | 0,hj=>simp at hj;subst hj;simp [Addr.add]
     case c2=>simp [Value.oneCell']
     case c3=>unfold maxLen;omega
     case c4=>omega
     case c5=>simp;omega
     go_roundw
     case rel =>
      (repeat apply Exists.intro)
      refine ⟨⟨k2+1,by omega,by go_num,by rw [HE.out];exact hown2,OwnB.below (by have:=HB.out;exact bel_) (HO.out) (by simp;omega) hgrow2⟩,?_⟩
      first | rfl | (rw [hA] <;> rfl) | rw [hA]
     case measure=>exact ms_
    ·have hkn:Hid (k2=x.tn):=by show _=_;omega
     have HBW:=hd_ hB
     have HOW:=hown
     rw [hkn.out,List.take_of_length_le (by rw [HL2.out];exact lr_)] at HOW
     have HOW:=hd_ HOW
     clear hB hown
     go_wp2
     go_loopw [3,39] (fun v i wr=>∃ k:Nat,k≤x.sn∧i=.int .i64 k∧wr.ownsRow (w.heap.size+1) 3 1 v (0+x.rn+x.tn+k) (intL ((([] ++ l.rc.map Rcp.src) ++ l.rt.map Rtn.src) ++ (l.sg.take k).map Sgt.src))∧Below (w.heap.size+1) (w.alloc (.cells #[.slice x.pA x.pn x.pc,.slice x.rA x.rn x.rc,.slice x.tA x.tn x.tc,.slice x.sA x.sn x.sc] 32)) wr) (fun _ i _=>x.sn - (intOf i).toNat)
     case atStart=>exact ⟨0,by omega,rfl,by simpa using HOW.out,HBW.out⟩
     case round =>
      obtain ⟨k3,hk2,rfl,hown,hB⟩:=hrel
      have hs0:w.heap.size+1≤wr.heap.size:=by have h:=hB.size;simp at h;omega
      obtain ⟨hcw,hfw⟩:=bcell (W:=(w.alloc (.cells #[.slice x.pA x.pn x.pc,.slice x.rA x.rn x.rc,.slice x.tA x.tn x.tc,.slice x.sA x.sn x.sc] 32))) (by simpa using hB)
      by_cases hlt:k3<x.sn
      ·obtain ⟨b,o,e,hA,hb,he,hq⟩:=(Sq.ext HD.out.s abS (w':=wr) (by simpa using hB) lr_).at_ hlt
       obtain ⟨a0,a1,a2,a3,a4,a5,a6⟩:=hq
       have hbr:b<wr.heap.size:=by simp at hb;omega
       have HE:Hid (intL ((([] ++ l.rc.map Rcp.src) ++ l.rt.map Rtn.src) ++ (l.sg.take (k3+1)).map Sgt.src)=intL ((([] ++ l.rc.map Rcp.src) ++ l.rt.map Rtn.src) ++ (l.sg.take k3).map Sgt.src) ++ [.int .i64 e.src]):=by
        show _=_
        rw [take_snoc_some he]
        simp [intL]
       have HO:=hd_ hown
       have HB:=hd_ hB
       clear he hB
       go_wp2_with (at_builtin;refine wpList_append_own _ rfl (.tmp 43) (.tmp 46) 33 rfl (w.heap.size+1) 3 i0 _ 1 8 Tryz.underlying33 hi hz0 hz1 hz2 rfl (by decide) _ _ _ rfl ((hown.alloc _).alloc _) ⟨wr.heap.size+1,0,none⟩ 1 1 [.int .i64 e.src] rfl rfl ?c1 ?c2 ?c3 ?c4 ?c5 ?_;rotate_left 5;intro v' w2 hown2 hgrow2 _)
       case c1=>intro j u hj;match j,hj with | 0,hj=>simp at hj;subst hj;simp [Addr.add]
       case c2=>simp [Value.oneCell']
       case c3=>unfold maxLen;omega
       case c4=>omega
       case c5=>simp;omega
       go_roundw
       case rel =>
        (repeat apply Exists.intro)
        refine ⟨⟨k3+1,by omega,by go_num,by rw [HE.out];exact hown2,OwnB.below (by have:=HB.out;exact bel_) (HO.out) (by simp;omega) hgrow2⟩,?_⟩
        first | rfl | (rw [hA] <;> rfl) | rw [hA]
       case measure=>exact ms_
      ·have hkn:Hid (k3=x.sn):=by show _=_;omega
       have HBW:=hd_ hB
       have HOW:=hown
       rw [hkn.out,List.take_of_length_le (by rw [HL3.out];exact lr_)] at HOW
       have HOW:=hd_ HOW
       clear hB hown
       go_wp2
       go_ret
       exact RetO.mk' (by simpa [srcL] using HOW.out) HBW.out HL1.out HL2.out HL3.out
theorem infoFol:(Tryz.prog.info? 48).map (fun i=>(i.zero,i.size,i.bytes))=some (some (.agg #[.int .i64 0,.int .i64 0]),2,16):=by kernel_rfl
def folCells (fs:List (Int × Int)):List Value:=fs.flatMap fun f=>[.int .i64 f.1,.int .i64 f.2]
def rcFol (r:Rcp):List (Int × Int):=r.lv.map fun x=>(r.pap,x)
def namL (l:Led):List (Int × Int):=l.rc.flatMap rcFol ++ l.sg.map fun s=>(s.pap,s.leaf)
def RetF (fs:List (Int × Int)) (w:World) (e:Ending) (w':World):Prop:=∃ v,e=.returned v∧Below w.heap.size w w'∧w'.ownsRow w.heap.size 48 2 v fs.length (folCells fs)
theorem own_ne {W:World} {base size n b:Nat} {e T:TypeId} {v:Value} {xs:List Value} {cs:Array Value} (h:W.ownsRow base e size v n xs) (hb:W.heap[b]?=some (.cells cs T (0,0))) (hT:T≠e):some b≠v.ownBlock:=by
 rcases h.2 with ⟨rfl,_⟩ | ⟨g,cap,cur,rfl,_,hg,_⟩
 ·simp [Value.ownBlock]
 ·intro he
  simp only [Value.ownBlock,Option.some.injEq] at he
  subst he
  rw [hg] at hb
  simp only [Option.some.injEq,Obj.cells.injEq] at hb
  exact hT hb.2.1.symm
theorem box_kept {W W0 w':World} {base size n b:Nat} {e T:TypeId} {v:Value} {xs:List Value} {cs:Array Value} (hb:W.heap[b]?=some (.cells cs T (0,0))) (h:W0.ownsRow base e size v n xs) (hb0:W0.heap[b]?=some (.cells cs T (0,0))) (hT:T≠e) (hg:W.grownBy w' v.ownBlock):w'.heap[b]?=some (.cells cs T (0,0)) :=
 (hg.block b (Array.getElem?_eq_some_iff.1 hb).1 (own_ne h hb0 hT)).trans hb
theorem OwnS.below {w W W0 w2:World} {B size n:Nat} {e:TypeId} {v:Value} {xs:List Value} (hB:Below B w W) (ho:W0.ownsRow B e size v n xs) (hs:B≤W.heap.size) (hg:W.grownBy w2 v.ownBlock):Below B w w2 :=
 hB.grown hg hs fun k ek=>own_base ho ek
theorem own_ex {W W':World} {base size n:Nat} {e:TypeId} {v:Value} {xs:List Value} (h:W.ownsRow base e size v n xs) (hb:Below W.heap.size W W'):W'.ownsRow base e size v n xs:=by
 refine ⟨h.1,h.2.imp id ?_⟩
 rintro ⟨g,cap,cur,hv,hB,hg,r⟩
 exact ⟨g,cap,cur,hv,hB,(hb.block g (Array.getElem?_eq_some_iff.1 hg).1).trans hg,r⟩
theorem take_fol {l:List Rcp} {k:Nat} {r:Rcp} (h:l[k]?=some r):(l.take (k+1)).flatMap rcFol=(l.take k).flatMap rcFol ++ rcFol r:=by rw [take_snoc_some h];simp
theorem fol_len {l:List Rcp} (h:∀ r∈l,r.lv.length≤30) (k:Nat):((l.take k).flatMap rcFol).length≤30*k:=by
 induction k generalizing l with
 | zero=>simp
 | succ k ih =>
   cases l with
   | nil=>simp
   | cons r l =>
     have h1:=ih (l:=l) fun r hr=>h r (List.mem_cons_of_mem _ hr)
     have h2:=h r (by simp)
     simp only [List.take_succ_cons,List.flatMap_cons,List.length_append,rcFol,List.length_map] at h1 ⊢
     omega
set_option maxRecDepth 10000 in
theorem p_named (l:Led) (x:Lsl) (w:World) (hr:x.rn≤60) (hs:x.sn≤60) (hl30:∀ r∈l.rc,r.lv.length≤30) (hd:LedIn w w.heap.size x l) :
 Calls Tryz.prog 58 #[.agg #[.slice x.pA x.pn x.pc,.slice x.rA x.rn x.rc,.slice x.tA x.tn x.tc,.slice x.sA x.sn x.sc]] w (RetF (namL l) w):=by
 obtain ⟨i0,hi,hz0,hz1,hz2⟩:=info_parts infoFol
 have hl1:=hd.r.len
 have hl3:=hd.s.len
 have HD:=hd_ (hd.now ((Below.refl w.heap.size w).alloc lr_ (.cells #[.slice x.pA x.pn x.pc,.slice x.rA x.rn x.rc,.slice x.tA x.tn x.tc,.slice x.sA x.sn x.sc] 32)))
 have HL1:=hd_ hl1
 have HL3:=hd_ hl3
 have H30:=hd_ hl30
 clear hl1 hl3 hd hl30
 go_enter Tryz.func58,Tryz.ntmps58
 go_wp2
 go_loopw [3,13] (fun v i wr=>∃ k:Nat,k≤x.rn∧i=.int .i64 k∧wr.ownsRow (w.heap.size+1) 48 2 v ((l.rc.take k).flatMap rcFol).length (folCells ((l.rc.take k).flatMap rcFol))∧Below (w.heap.size+1) (w.alloc (.cells #[.slice x.pA x.pn x.pc,.slice x.rA x.rn x.rc,.slice x.tA x.tn x.tc,.slice x.sA x.sn x.sc] 32)) wr) (fun _ i _=>x.rn - (intOf i).toNat)
 case atStart=>exact ⟨0,by omega,rfl,World.ownsRow_nil _ _ _ _,by exact bel_⟩
 case round =>
  obtain ⟨k,hk,rfl,hown,hB⟩:=hrel
  have hs0:w.heap.size+1≤wr.heap.size:=by have h:=hB.size;simp at h;omega
  by_cases hlt:k<x.rn
  ·obtain ⟨b,o,e,hA,hb,he,hq⟩:=(Sq.ext HD.out.r abR (w':=wr) (by simpa using hB) lr_).at_ hlt
   obtain ⟨A1,n1,c1,⟨a0,a1,a2,a3,a4,a5,a6⟩,hi1,hc1,hm1⟩:=hq
   have hbr:b<wr.heap.size:=by simp at hb;omega
   have hn1:n1≤30:=by rw [← hi1.len];exact H30.out e (List.mem_of_getElem? he)
   have hfl:=fol_len H30.out k
   have HE:=hd_ (take_fol he)
   have HI:=hd_ hi1
   have HIL:=hd_ hi1.len
   obtain ⟨L0,hL0⟩:∃ L0,(l.rc.take k).flatMap rcFol=L0:=⟨_,rfl⟩
   rw [hL0] at hown hfl HE
   obtain ⟨wo,hwo⟩:∃ wo,wo=wr:=⟨_,rfl⟩
   subst hwo
   have HB:=hd_ hB
   have HO:=hd_ hown
   clear he hi1 hB hL0 hown
   go_wp2
   have HAA:=hd_ hA
   clear hA
   go_loopw [3,20] (fun v i wq=>∃ j:Nat,j≤n1∧i=.int .i64 j∧wq.ownsRow (w.heap.size+1) 48 2 v (L0.length+j) (folCells (L0 ++ (e.lv.take j).map fun y=>(e.pap,y)))∧Below (w.heap.size+1) wo wq∧wq.heap[wo.heap.size]?=some (.cells #[.int .i64 e.src,.int .i64 e.bor,.int .i64 e.pap,.slice A1 n1 c1,.int .i64 e.day,.int .i64 e.kn,.int .i64 e.un] 79 (0,0))) (fun _ i _=>n1 - (intOf i).toNat)
   case atStart=>exact ⟨0,by omega,rfl,by simpa using HO.out.alloc _,by exact bel_,by simpa using World.alloc_heap_new wo _⟩
   case round =>
    obtain ⟨j,hj,rfl,hown,hQ,hbox⟩:=hrel
    have hBQ:Below (w.heap.size+1) (w.alloc (.cells #[.slice x.pA x.pn x.pc,.slice x.rA x.rn x.rc,.slice x.tA x.tn x.tc,.slice x.sA x.sn x.sc] 32)) wr:=HB.out.trans hQ
    have hbl:wo.heap.size<wr.heap.size:=(Array.getElem?_eq_some_iff.1 hbox).1
    have x2:wr.cell? ⟨wo.heap.size,2,none⟩=some (.int .i64 e.pap):=by simp [World.cell?,hbox]
    by_cases hjn:j<n1
    ·have HI2:Is wr (w.alloc (.cells #[.slice x.pA x.pn x.pc,.slice x.rA x.rn x.rc,.slice x.tA x.tn x.tc,.slice x.sA x.sn x.sc] 32)).heap.size A1 n1 e.lv:=Rd.keep HI.out (w':=wr) fun b' o' hb'=>hQ.cell (p:=⟨b',o',none⟩) (by simpa using hb')
     obtain ⟨b1,o1,y,rfl,hb1,hy,hc0⟩:=HI2.at_ hjn
     clear HI2
     have HY:=hd_ (take_snoc_some hy)
     have HOI:=hd_ hown
     have HQ:=hd_ hQ
     have HBX:=hd_ hbox
     clear hy hQ hbox
     go_wp2_with (at_builtin;refine wpList_append_own _ rfl (.tmp 24) (.tmp 29) 44 rfl (w.heap.size+1) 48 i0 _ 2 16 Tryz.underlying44 hi hz0 hz1 hz2 rfl (by decide) _ _ _ rfl (hown.alloc _) ⟨wr.heap.size,0,none⟩ 1 1 [.int .i64 e.pap,.int .i64 y] rfl rfl ?c1 ?c2 ?c3 ?c4 ?c5 ?_;rotate_left 5;intro v' w2 hown2 hgrow2 _)
     case c1=>intro j u hj;match j,hj with
      | 0,hj=>simp at hj;subst hj;simp [Addr.add]
      | 1,hj=>simp at hj;subst hj;simp [Addr.add]
     case c2=>simp [Value.oneCell']
     case c3=>unfold maxLen;omega
     case c4=>omega
     case c5=>simp;omega
     go_roundw
     case rel =>
      refine ⟨j+1,by omega,by go_num,?_,OwnS.below (by have:=HQ.out;exact bel_) HOI.out (by simp;omega) hgrow2,?_⟩
      ·rw [HY.out]
       have e1:folCells (L0 ++ (e.lv.take j ++ [y]).map fun y=>(e.pap,y))=folCells (L0 ++ (e.lv.take j).map fun y=>(e.pap,y)) ++ [.int .i64 e.pap,.int .i64 y]:=by simp [folCells]
       rw [e1]
       exact hown2
      ·exact box_kept (W:=wr.alloc (.cells #[.int .i64 e.pap,.int .i64 y] 48)) ((Below.heap_alloc _ _ _ hbl).trans HBX.out) HOI.out HBX.out (by decide) hgrow2
     case measure=>exact ms_
    ·have hjk:Hid (j=n1):=by show _=_;omega
     have HOI:=hd_ hown
     have HBQ:=hd_ hBQ
     clear hown hBQ hbox hQ
     go_wp2
     have hA:=HAA.out
     go_roundw
     case rel =>
      refine ⟨k+1,by omega,by go_num,?_,HBQ.out⟩
      rw [HE.out]
      have h:=HOI.out
      rw [hjk.out,List.take_of_length_le (by rw [HIL.out];exact lr_)] at h
      rw [List.length_append,show (rcFol e).length=n1 from by rw [rcFol,List.length_map,HIL.out]]
      exact h
     case measure=>exact ms_
  ·have hkn:Hid (k=x.rn):=by show _=_;omega
   obtain ⟨hcw,hfw⟩:=bcell (W:=(w.alloc (.cells #[.slice x.pA x.pn x.pc,.slice x.rA x.rn x.rc,.slice x.tA x.tn x.tc,.slice x.sA x.sn x.sc] 32))) (by simpa using hB)
   have HBW:=hd_ hB
   have HOW:=hown
   rw [hkn.out,List.take_of_length_le (by rw [HL1.out];exact lr_)] at HOW
   have hlen1:(l.rc.flatMap rcFol).length≤1800:=by
    have h:=fol_len H30.out x.rn
    rw [List.take_of_length_le (by rw [HL1.out];exact lr_)] at h
    omega
   obtain ⟨L1,hL1⟩:∃ L1,l.rc.flatMap rcFol=L1:=⟨_,rfl⟩
   rw [hL1] at HOW hlen1
   have HOW:=hd_ HOW
   have HL:=hd_ hL1
   clear hB hown hL1
   go_wp2
   go_loopw [3,36] (fun v i wr=>∃ k:Nat,k≤x.sn∧i=.int .i64 k∧wr.ownsRow (w.heap.size+1) 48 2 v (L1.length+k) (folCells (L1 ++ (l.sg.take k).map fun s=>(s.pap,s.leaf)))∧Below (w.heap.size+1) (w.alloc (.cells #[.slice x.pA x.pn x.pc,.slice x.rA x.rn x.rc,.slice x.tA x.tn x.tc,.slice x.sA x.sn x.sc] 32)) wr) (fun _ i _=>x.sn - (intOf i).toNat)
   case atStart=>exact ⟨0,by omega,rfl,by simpa using HOW.out,HBW.out⟩
   case round =>
    obtain ⟨k3,hk3,rfl,hown,hB⟩:=hrel
    have hs0:w.heap.size+1≤wr.heap.size:=by have h:=hB.size;simp at h;omega
    by_cases hlt3:k3<x.sn
    ·obtain ⟨b,o,e,hA,hb,he,a0,a1,a2,a3,a4,a5,a6⟩:=(Sq.ext HD.out.s abS (w':=wr) (by simpa using hB) lr_).at_ hlt3
     have hbr:b<wr.heap.size:=by simp at hb;omega
     have HE:=hd_ (take_snoc_some he)
     have HO:=hd_ hown
     have HB:=hd_ hB
     clear he hB hown
     go_wp2_with (go_at_call 87;refine (p_folioOf e _).mono ?_;rintro e' w4 ⟨rfl,hb4⟩;refine Hid.out ?_)
     refine hd_ ?_
     have hQ4:Below wr.heap.size wr w4:=bt_ (W:=wr.alloc (.cells #[.int .i64 e.src,.int .i64 e.per,.int .i64 e.pap,.int .i64 e.leaf,.int .i64 e.day,.int .i64 e.kn,.int .i64 e.un] 70)) (by exact bel_) hb4
     have hs4:=hQ4.size
     have hown4:=own_ex HO.out hQ4
     have HO4:=hd_ hown4
     have HQ4:=hd_ hQ4
     clear hb4 hQ4
     go_wp2_with (at_builtin;refine wpList_append_own _ rfl (.tmp 40) (.tmp 43) 44 rfl (w.heap.size+1) 48 i0 _ 2 16 Tryz.underlying44 hi hz0 hz1 hz2 rfl (by decide) _ _ _ rfl (hown4.alloc _) ⟨w4.heap.size,0,none⟩ 1 1 [.int .i64 e.pap,.int .i64 e.leaf] rfl rfl ?c1 ?c2 ?c3 ?c4 ?c5 ?_;rotate_left 5;intro v' w2 hown2 hgrow2 _)
     case c1=>intro j u hj;match j,hj with
      | 0,hj=>simp at hj;subst hj;simp [Addr.add]
      | 1,hj=>simp at hj;subst hj;simp [Addr.add]
     case c2=>simp [Value.oneCell']
     case c3=>unfold maxLen;omega
     case c4=>omega
     case c5=>simp;omega
     go_roundw
     case rel =>
      (repeat apply Exists.intro)
      refine ⟨⟨k3+1,by omega,by go_num,?_,OwnS.below ((HB.out.trans (HQ4.out.mono hs0)).alloc (by omega) _) HO4.out (by simp;omega) hgrow2⟩,?_⟩
      ·rw [HE.out]
       have e1:folCells (L1 ++ (l.sg.take k3 ++ [e]).map fun s=>(s.pap,s.leaf))=folCells (L1 ++ (l.sg.take k3).map fun s=>(s.pap,s.leaf)) ++ [.int .i64 e.pap,.int .i64 e.leaf]:=by simp [folCells]
       rw [e1]
       exact hown2
      ·first | rfl | (rw [hA] <;> rfl) | rw [hA]
     case measure=>exact ms_
    ·have hk3n:Hid (k3=x.sn):=by show _=_;omega
     have HO:=hd_ hown
     have HB:=hd_ hB
     clear hown hB
     go_wp2
     go_ret
     refine ⟨_,rfl,(show Below w.heap.size w (w.alloc (.cells #[.slice x.pA x.pn x.pc,.slice x.rA x.rn x.rc,.slice x.tA x.tn x.tc,.slice x.sA x.sn x.sc] 32)) by exact bel_).trans (HB.out.mono (Nat.le_succ _)),?_⟩
     have h:=HO.out
     rw [hk3n.out,List.take_of_length_le (by rw [HL3.out];exact lr_)] at h
     rw [namL,HL.out,List.length_append,List.length_map,HL3.out]
     exact own_dn h (Nat.le_succ _)
end Go.Proofs.YtmcmbicapdcfmaaGreat
namespace Go.Proofs.YtmcmbicapdcfmaaGreat
open Go.RowKit Go.Sort
def srtI (xs:List Int):List Int:=xs.mergeSort fun x y=>decide (x≤y)
theorem srtI_len (xs:List Int):(srtI xs).length=xs.length:=List.length_mergeSort ..
theorem srtI_perm (xs:List Int):(srtI xs).Perm xs:=List.mergeSort_perm ..
theorem srtI_pair (xs:List Int):(srtI xs).Pairwise (·≤·):=by
 have h:=List.pairwise_mergeSort (le:=fun x y:Int=>decide (x≤y)) (fun a b c h1 h2=>by simp at h1 h2 ⊢;omega) (fun a b=>by simp;omega) xs
 exact h.imp fun h=>by simpa using h
theorem adj_nodup {zs:List Int} (hs:zs.Pairwise (·≤·)) (h:∀ j (h1:j+1<zs.length),zs[j+1]≠zs[j]):zs.Nodup:=by
 induction zs with
 | nil=>exact List.nodup_nil
 | cons a l ih =>
   rw [List.nodup_cons]
   rw [List.pairwise_cons] at hs
   have hl:=ih hs.2 fun j h1=>by
    have:=h (j+1) (by simp;omega)
    simpa using this
   refine ⟨fun ha=>?_,hl⟩
   cases l with
   | nil=>simp at ha
   | cons b m =>
     have h0:=h 0 (by simp)
     simp at h0
     have hab:=hs.1 b (by simp)
     rw [List.pairwise_cons] at hs
     rcases List.mem_cons.1 ha with e | hm
     ·exact h0 e.symm
     ·have:=hs.2.1 a hm
      omega
theorem compact_nodup {zs:List Int} (hs:zs.Pairwise (·≤·)):decide ((Lib.compact zs).length=zs.length)=decide zs.Nodup:=by
 rw [decide_eq_decide]
 constructor
 ·intro h
  have hall:∀ j,j<zs.length→Lib.keeps zs.toArray j=true:=by
   have h2:((List.range zs.length).filter (Lib.keeps zs.toArray)).length=(List.range zs.length).length:=by
    have h3:=h
    simp only [Lib.compact,Lib.compactUpTo,List.length_map] at h3
    simpa using h3
   intro j hj
   exact (List.length_filter_eq_length_iff.1 h2) j (List.mem_range.2 hj)
  refine adj_nodup hs fun j h1 e=>?_
  have:=hall (j+1) h1
  rw [Lib.keeps_neg (by omega) (by simp [h1,show j<zs.length by omega,e])] at this
  cases this
 ·intro h
  have hk:∀ j,j<zs.length→Lib.keeps zs.toArray j=true:=fun j hj=>by
   cases j with
   | zero=>exact Lib.keeps_lt_one _ 0 (by omega)
   | succ j =>
     refine Lib.keeps_pos ?_
     simp only [Nat.add_sub_cancel]
     intro e
     have e2:zs[j+1]=zs[j]'(by omega):=by simpa [hj,show j<zs.length by omega] using e
     have:=(List.getElem_inj h).1 e2
     omega
  rw [Lib.compact_all zs hk]
theorem p_SortI {base n c:Nat} {A:Option Addr} {xs:List Int} (w:World) (hn:n≤1000000) (h:w.ownsRow base 3 1 (.slice A n c) n (intL xs)) :
 Calls Tryz.prog 114 #[.slice A n c] w fun e w'=>e=.returned (.tuple #[])∧w'.ownsRow base 3 1 (.slice A n c) n (intL (srtI xs))∧w.grownBy w' (Value.slice A n c).ownBlock:=by
 have hl:xs.length=n:=by have:=h.1;simpa [intL] using this
 rcases h.2 with ⟨hv,h0⟩ | ⟨g,cap,cur,hv,hB,hg,h1,h2,h3,ht⟩
 ·injection hv with e1 e2 e3
  subst e1 e2 e3
  refine (Any.slices_Sort_int_none Tryz.laysSortI none 0 w).mono ?_
  rintro e w' ⟨he,rfl⟩
  have hx:xs=[]:=List.eq_nil_of_length_eq_zero hl
  subst hx
  exact ⟨he,by rw [show srtI []=[] from by simp [srtI]];exact h,⟨rfl,rfl,rfl,lr_,fun _ _ _=>rfl⟩⟩
 ·injection hv with e1 e2 e3
  subst e1 e3
  have ht':cur.toList.take xs.length=xs.map (Value.int .i64):=by rw [hl];simpa [intL] using ht
  have hH:=holds_of_blockI hg ht'
  have hc:=Any.slices_Sort_int Tryz.laysSortI g 0 c xs w hH (Array.getElem?_eq_some_iff.1 hg).1 (by omega)
  rw [hl] at hc
  refine hc.mono ?_
  rintro e w' ⟨he,m,os,rfl⟩
  refine ⟨he,?_,by simpa [Value.ownBlock] using grownBy_sortedI _⟩
  have ho:=ownsRow_sortedI (w:=w) (n:=m) (os:=os) (ss:=xs) (ts:=srtI xs) (srtI_len xs) hB hg (by rw [hl];exact h1) h2 (by simpa using h3)
  rw [hl] at ho
  exact ho
theorem p_CompactI {base n c:Nat} {A:Option Addr} {xs:List Int} (w:World) (hn:n≤1000000) (h:w.ownsRow base 3 1 (.slice A n c) n (intL xs)) :
 Calls Tryz.prog 115 #[.slice A n c] w fun e w'=>e=.returned (.slice A (Lib.compact xs).length c)∧w.grownBy w' (Value.slice A n c).ownBlock:=by
 have hl:xs.length=n:=by have:=h.1;simpa [intL] using this
 rcases h.2 with ⟨hv,h0⟩ | ⟨g,cap,cur,hv,hB,hg,h1,h2,h3,ht⟩
 ·injection hv with e1 e2 e3
  subst e1 e2 e3
  refine (Any.slices_Compact_int_empty Tryz.laysCompactI none 0 w).mono ?_
  rintro e w' ⟨he,rfl⟩
  have hx:xs=[]:=List.eq_nil_of_length_eq_zero hl
  subst hx
  exact ⟨he,⟨rfl,rfl,rfl,lr_,fun _ _ _=>rfl⟩⟩
 ·injection hv with e1 e2 e3
  subst e1 e3
  have ht':cur.toList.take xs.length=xs.map (Value.int .i64):=by rw [hl];simpa [intL] using ht
  have hH:=holds_of_blockI hg ht'
  have hc:=Any.slices_Compact_int Tryz.laysCompactI g 0 c xs w hH (by omega) (by omega)
  rw [hl] at hc
  refine hc.mono ?_
  rintro e w' ⟨he,m,rfl⟩
  refine ⟨he,?_⟩
  have h5:=grownBy_sortedI (w:=w) (g:=g) (n:=m) (os:=#[]) (Lib.compact xs ++ List.replicate (n - (Lib.compact xs).length) 0).toArray
  rw [grow_empty] at h5
  simpa [Value.ownBlock] using h5
end Go.Proofs.YtmcmbicapdcfmaaGreat
namespace Go.Proofs.YtmcmbicapdcfmaaGreat
open Go.RowKit
theorem apart_eq (xs:List Int):decide ((Lib.compact (srtI xs)).length=xs.length)=decide xs.Nodup:=by
 have h:=compact_nodup (srtI_pair xs)
 rw [srtI_len] at h
 rw [h,decide_eq_decide]
 exact (srtI_perm xs).nodup_iff
theorem srcL_len {l:Led} {a b c:Nat} (h1:l.rc.length=a) (h2:l.rt.length=b) (h3:l.sg.length=c):(srcL l).length=a+b+c:=by simp [srcL,h1,h2,h3];omega
set_option maxRecDepth 10000 in
theorem p_areApart (l:Led) (x:Lsl) (w:World) (hr:x.rn≤60) (ht:x.tn≤60) (hs:x.sn≤60) (hd:LedIn w w.heap.size x l) :
 Calls Tryz.prog 56 #[.agg #[.slice x.pA x.pn x.pc,.slice x.rA x.rn x.rc,.slice x.tA x.tn x.tc,.slice x.sA x.sn x.sc]] w fun e w'=>e=.returned (.bool (decide (srcL l).Nodup))∧Below w.heap.size w w':=by
 obtain ⟨W1,hW1⟩:∃ W1,w.alloc (.cells #[.slice x.pA x.pn x.pc,.slice x.rA x.rn x.rc,.slice x.tA x.tn x.tc,.slice x.sA x.sn x.sc] 32)=W1:=⟨_,rfl⟩
 have hB1:Below w.heap.size w W1:=by rw [← hW1];exact (Below.refl _ _).alloc lr_ _
 have hz1:W1.heap.size=w.heap.size+1:=by rw [← hW1];simp
 have b0:W1.cell? ⟨w.heap.size,0,none⟩=some (.slice x.pA x.pn x.pc):=by rw [← hW1];simp
 have b1:W1.cell? ⟨w.heap.size,1,none⟩=some (.slice x.rA x.rn x.rc):=by rw [← hW1];simp
 have b2:W1.cell? ⟨w.heap.size,2,none⟩=some (.slice x.tA x.tn x.tc):=by rw [← hW1];simp
 have b3:W1.cell? ⟨w.heap.size,3,none⟩=some (.slice x.sA x.sn x.sc):=by rw [← hW1];simp
 have HD:=hd_ (hd.now hB1)
 have hln:=srcL_len hd.r.len hd.t.len hd.s.len
 obtain ⟨xs,hxs⟩:∃ xs,srcL l=xs:=⟨_,rfl⟩
 have HS:Hid (∀ W:World,LedIn W W.heap.size x l→Calls Tryz.prog 88 #[.agg #[.slice x.pA x.pn x.pc,.slice x.rA x.rn x.rc,.slice x.tA x.tn x.tc,.slice x.sA x.sn x.sc]] W (RetO xs W)):=by
  show ∀ _,_
  intro W h
  rw [← hxs]
  exact p_sources l x W hr ht hs h
 rw [hxs] at hln ⊢
 obtain ⟨n,hn⟩:∃ n,xs.length=n:=⟨_,rfl⟩
 have hn180:n≤180:=by omega
 unfold RetO at HS
 rw [hn] at HS
 have HE:=hd_ (apart_eq xs)
 rw [hn] at HE
 obtain ⟨m,hm⟩:∃ m,(Lib.compact (srtI xs)).length=m:=⟨_,rfl⟩
 rw [hm] at HE
 have HM:=hd_ hm
 clear hxs hln hd hn hm
 go_enter Tryz.func56,Tryz.ntmps56
 go_wp2_with (go_at_call 88;(first | rw [hW1] | skip);refine (HS.out _ HD.out).mono ?_;rintro e w1 ⟨v1,rfl,hb1,hown1⟩;refine Hid.out ?_)
 refine hd_ ?_
 obtain ⟨A,c,rfl,hcc⟩:=own_slice hown1
 have hs1:=hb1.size
 have HP:=hd_ (p_SortI (base:=W1.heap.size) w1 (by omega) hown1)
 clear hW1
 go_wp2_with (go_at_call 114;refine HP.out.mono ?_;rintro e w2 ⟨rfl,hown2,hg2⟩;refine Hid.out ?_)
 refine hd_ ?_
 have hB2:Below W1.heap.size W1 w2:=hb1.grown hg2 hs1 fun k ek=>own_base hown1 ek
 have hs2:=hB2.size
 obtain ⟨q2,f2⟩:=bcell hB2
 have HO2:=hd_ hown2
 have HB2:=hd_ hB2
 clear hown1 hown2 hg2 hb1 hB2 HP
 go_wp2_with fail
 have hown3:w2.drew.ownsRow W1.heap.size 3 1 (.slice A n c) n (intL (srtI xs)):=HO2.out
 have HP3:=hd_ (p_CompactI (base:=W1.heap.size) w2.drew (by omega) hown3)
 rw [HM.out] at HP3
 go_region_with (first
  | (go_at_call 115;refine HP3.out.mono ?_;rintro e w3 ⟨rfl,hg3⟩;have hB3:Below W1.heap.size W1 w3:=HB2.out.drew.grown hg3 hs2 fun k ek=>own_base hown3 ek;obtain ⟨q3,f3⟩:=bcell hB3)
  | (go_at_call 88;refine (HS.out _ (HD.out.now hB3)).mono ?_;rintro e w4 ⟨v4,rfl,hb4,hown4⟩;obtain ⟨A4,c4,rfl,_⟩:=own_slice hown4))
 all_goals
  go_wp2_with fail
  go_ret
  refine ⟨ret_bool ?_,(hB1.trans (hB3.mono (by omega))).trans (hb4.mono (by have:=hB3.size;omega))⟩
  rw [← HE.out,Bool.eq_iff_iff]
  simp
  try omega
end Go.Proofs.YtmcmbicapdcfmaaGreat
