/- Layer 2 of the texts that LoanBack takes: Bahq. -/
import Derived.Test.YtmcmbicapdcfmaaGreatBafq
set_option linter.unusedVariables false
set_option linter.unusedSimpArgs false
set_option maxHeartbeats 16000000
namespace Go.Proofs.YtmcmbicapdcfmaaGreat
open Go.RowKit
theorem p_leaf1 (n:Int) (w:World):Calls Tryz.prog 145 #[.int .i64 n] w fun e w'=>e=.returned (.int .i64 n)∧w=w':=by
 go_enter Tryz.func145,Tryz.ntmps145
 go_wp2
 go_ret
 exact ⟨rfl,rfl⟩
theorem p_leaf2 (n:Int) (v:Bool) (w:World) (h:withinB n 1 30=v):Calls Tryz.prog 146 #[.int .i64 n] w fun e w'=>e=.returned (.int .i64 (errI v 20))∧w=w':=by
 subst h
 go_enter Tryz.func146,Tryz.ntmps146
 go_wp2_with (first | (go_at_call 113;refine (p_isLeaf _ _).mono ?_;rintro e w1 ⟨rfl,rfl⟩) | (go_at_call 61;refine (p_verdict _ _ _).mono ?_;rintro e w1 ⟨rfl,rfl⟩))
 go_ret
 exact ⟨rfl,rfl⟩
theorem p_leaf2_no (n:Int) (w:World) (h:withinB n 1 30=false):Calls Tryz.prog 146 #[.int .i64 n] w fun e w'=>e=.returned (.int .i64 20)∧w=w':=p_leaf2 n false w h
theorem p_leaf2_yes (n:Int) (w:World) (h:withinB n 1 30=true):Calls Tryz.prog 146 #[.int .i64 n] w fun e w'=>e=.returned (.int .i64 0)∧w=w':=p_leaf2 n true w h
theorem l_areValidI (l:List Int) (A:Option Addr) (n c:Nat) (w:World) (hn:n≤9223372036854775807) (hd:Is w w.heap.size A n l) :
 Calls Tryz.prog 144 #[.slice A n c,.int .i64 30,.func (.func 145) #[] #[],.func (.func 146) #[] #[]] w fun e w'=>e=.returned (.bool (valB id leafB 30 l))∧Below w.heap.size w w':=by
 have hlen:=hd.len
 have HD:=hd_ hd
 have HL:=hd_ hlen
 clear hd
 by_cases h30:30<n
 ·have hi30:30<(n:Int):=by omega
  clear hlen
  go_enter Tryz.func144,Tryz.ntmps144
  go_wp2
  go_ret
  exact ⟨ret_bool (by rw [valB,HL.out];simp;omega),Below.refl _ _⟩
 ·have hi30:¬ 30<(n:Int):=by omega
  clear hlen
  go_enter Tryz.func144,Tryz.ntmps144
  go_wp2
  go_loopw [17] (fun i wr=>∃ k:Nat,k≤n∧i=.int .i64 k∧(List.range k).all (valAt id leafB l)=true∧Below w.heap.size w wr) (fun i _=>n - (intOf i).toNat)
  case atStart=>exact ⟨0,by omega,rfl,rfl,Below.refl _ _⟩
  case round =>
   obtain ⟨k,hk,rfl,hall,hB⟩:=hrel
   have HA:=hd_ hall
   clear hall
   by_cases hlt:k<n
   ·obtain ⟨b,o,x,rfl,hb,hx,hc0⟩:=(Is.ext HD.out hB lr_).at_ hlt
    have HX:=hd_ hx
    clear hx
    have hs0:w.heap.size≤wr.heap.size:=hB.size
    have hbr:b<wr.heap.size:=by omega
    cases hin:withinB x 1 30 with
    | false =>
      have hf:Hid (valAt id leafB l k=false):=by
       show _=_
       cases k with
       | zero=>simp [valAt,HX.out,leafB,hin]
       | succ j=>cases hj:l[j]? <;> simp [valAt,HX.out,leafB,hin,hj]
      have HI:=hd_ hin
      clear hin
      go_wp2_with (go_at_call 146;refine (p_leaf2_no _ _ HI.out).mono ?_;rintro e w1 ⟨rfl,rfl⟩)
      go_ret
      exact ⟨ret_bool (by rw [valB,val_false (by rw [HL.out];exact hlt) hf.out];simp),hB⟩
    | true =>
      have HI:=hd_ hin
      clear hin
      by_cases hk0:k=0
      ·have hf:Hid (valAt id leafB l k=true):=by
        show _=_
        have h1:=HX.out
        rw [hk0] at h1 ⊢
        simp [valAt,h1,leafB,HI.out]
       have hk2:decide (0<k)=false:=by simp;omega
       have hk3:¬ (0:Int)<(k:Int):=by omega
       clear hk0
       go_wp2_with (go_at_call 146;refine (p_leaf2_yes _ _ HI.out).mono ?_;rintro e w1 ⟨rfl,rfl⟩)
       go_roundw
       case rel=>exact ⟨k+1,by omega,by go_num,val_succ HA.out hf.out,hB⟩
       case measure=>exact ms_
      ·obtain ⟨j,rfl⟩:∃ j,k=j+1:=⟨k - 1,by omega⟩
       obtain ⟨b',o',y,e',_,hy,hc1⟩:=(Is.ext HD.out hB lr_).at_ (k:=j) (by omega)
       obtain ⟨rfl,rfl⟩:b=b'∧o=o':=by simpa using e'
       have HY:=hd_ hy
       clear hy e' hk0
       by_cases hxy:y<x
       ·have hf:Hid (valAt id leafB l (j+1)=true):=by show _=_;simp [valAt,HX.out,HY.out,leafB,HI.out,hxy]
        have hxd:decide (x≤y)=false:=by simp;omega
        clear hxy
        go_wp2_with (first | (go_at_call 146;refine (p_leaf2_yes _ _ HI.out).mono ?_;rintro e w1 ⟨rfl,rfl⟩) | (go_at_call 145;refine (p_leaf1 _ _).mono ?_;rintro e w1 ⟨rfl,rfl⟩))
        go_roundw
        case rel=>exact ⟨j+1+1,by omega,by go_num,val_succ HA.out hf.out,hB⟩
        case measure=>exact ms_
       ·have hf:Hid (valAt id leafB l (j+1)=false):=by show _=_;simp [valAt,HX.out,HY.out,leafB,HI.out];omega
        have hxd:decide (x≤y)=true:=by simp;omega
        clear hxy
        go_wp2_with (first | (go_at_call 146;refine (p_leaf2_yes _ _ HI.out).mono ?_;rintro e w1 ⟨rfl,rfl⟩) | (go_at_call 145;refine (p_leaf1 _ _).mono ?_;rintro e w1 ⟨rfl,rfl⟩))
        go_ret
        exact ⟨ret_bool (by rw [valB,val_false (by rw [HL.out];exact hlt) hf.out];simp),hB⟩
   ·have hkn:k=n:=by omega
    have HKn:=hd_ hkn
    clear hkn
    go_wp2
    go_ret
    have h1:l.length=k:=by rw [HL.out,HKn.out]
    exact ⟨ret_bool (by rw [valB,h1,HA.out];simp;omega),hB⟩
theorem p_areLeaves (l:List Int) (A:Option Addr) (n c:Nat) (w:World) (hn:n≤9223372036854775807) (hd:Is w w.heap.size A n l) :
 Calls Tryz.prog 109 #[.slice A n c] w fun e w'=>e=.returned (.bool (leavesB l))∧Below w.heap.size w w':=by
 have hlen:=hd.len
 have HV:=hd_ (l_areValidI l A n c w hn hd)
 have HL:=hd_ hlen
 clear hd hlen
 by_cases h0:0<n
 ·have hi0:0<(n:Int):=by omega
  go_enter Tryz.func109,Tryz.ntmps109
  go_wp2_with (go_at_call 144;refine HV.out.mono ?_;rintro e w1 ⟨rfl,hb1⟩)
  go_ret
  exact ⟨ret_bool (by rw [leavesB,HL.out];simp [h0]),hb1⟩
 ·have hi0:¬ 0<(n:Int):=by omega
  go_enter Tryz.func109,Tryz.ntmps109
  go_wp2_with (go_at_call 144;refine HV.out.mono ?_;rintro e w1 ⟨rfl,hb1⟩)
  go_ret
  exact ⟨ret_bool (by rw [leavesB,HL.out];simp;omega),Below.refl _ _⟩
def lvOf:List Ppr→Int→Int
 | [],_=>0
 | p :: ps,n=>if p.id=n then p.lv else lvOf ps n
theorem lvOf_at {pp:List Ppr} {k:Nat} {p:Ppr} (n:Int) (h:pp[k]?=some p):lvOf (pp.drop k) n=if p.id=n then p.lv else lvOf (pp.drop (k+1)) n:=by
 have hlt:k<pp.length:=(List.getElem?_eq_some_iff.1 h).1
 have hp:pp[k]=p:=(List.getElem?_eq_some_iff.1 h).2
 rw [List.drop_eq_getElem_cons hlt,hp,lvOf]
def folB (pp:List Ppr) (pap leaf:Int):Bool:=withinB leaf 1 (lvOf pp pap)
theorem p_leaves (pp:List Ppr) (x:Lsl) (n:Int) (w:World) (hn:x.pn≤9223372036854775807) (hd:Pps w w.heap.size x.pA x.pn pp) :
 Calls Tryz.prog 67 #[.agg #[.slice x.pA x.pn x.pc,.slice x.rA x.rn x.rc,.slice x.tA x.tn x.tc,.slice x.sA x.sn x.sc],.int .i64 n] w fun e w'=>e=.returned (.int .i64 (lvOf pp n))∧Below w.heap.size w w':=by
 have hlen:=hd.len
 have HD:=hd_ hd
 have HL:=hd_ hlen
 clear hd hlen
 go_enter Tryz.func67,Tryz.ntmps67
 go_wp2
 go_loopw [10] (fun i wr=>∃ k:Nat,k≤x.pn∧i=.int .i64 k∧lvOf (pp.drop k) n=lvOf pp n∧Below w.heap.size w wr) (fun i _=>x.pn - (intOf i).toNat)
 case atStart=>exact ⟨0,by omega,rfl,rfl,by exact bel_⟩
 case round =>
  obtain ⟨k,hk,rfl,hv,hB⟩:=hrel
  have HV:=hd_ hv
  clear hv
  by_cases hlt:k<x.pn
  ·have hs0:w.heap.size≤wr.heap.size:=hB.size
   obtain ⟨b,o,p,hA,hb,hp,h0,h1⟩:=(Sq.ext HD.out abP hB lr_).at_ hlt
   have HP:=hd_ (lvOf_at n hp)
   have hbr:b<wr.heap.size:=by omega
   clear hp
   by_cases he:p.id=n
   ·go_wp2
    go_ret
    exact ⟨ret_int (by rw [← HV.out,HP.out,if_pos he]),by exact bel_⟩
   ·go_wp2
    go_roundw
    case rel=>exact ⟨k+1,by omega,by go_num,by rw [← HV.out,HP.out,if_neg he],by exact bel_⟩
    case measure=>exact ms_
  ·have hkn:Hid (k=x.pn):=by show _=_;omega
   go_wp2
   go_ret
   exact ⟨ret_int (by rw [← HV.out,List.drop_eq_nil_of_le (by rw [HL.out,hkn.out];exact lr_)];rfl),hB⟩
theorem r_leavesOf (pp:List Ppr) (x:Lsl) (n:Int) (w:World) (hn:x.pn≤9223372036854775807) (hd:Pps w w.heap.size x.pA x.pn pp) :
 Calls Tryz.prog 78 #[.agg #[.slice x.pA x.pn x.pc,.slice x.rA x.rn x.rc,.slice x.tA x.tn x.tc,.slice x.sA x.sn x.sc],.int .i64 n] w fun e w'=>e=.returned (.int .i64 (lvOf pp n))∧Below w.heap.size w w':=by
 have hlen:=hd.len
 have HD:=hd_ hd
 have HL:=hd_ hlen
 clear hd hlen
 go_enter Tryz.func78,Tryz.ntmps78
 go_wp2
 go_loopw [5] (fun i wr=>∃ k:Nat,k≤x.pn∧i=.int .i64 k∧lvOf (pp.drop k) n=lvOf pp n∧wr=w.alloc (.cells #[.slice x.pA x.pn x.pc,.slice x.rA x.rn x.rc,.slice x.tA x.tn x.tc,.slice x.sA x.sn x.sc] 32)) (fun i _=>x.pn - (intOf i).toNat)
 case atStart=>exact ⟨0,by omega,rfl,rfl,rfl⟩
 case round =>
  obtain ⟨k,hk,rfl,hv,rfl⟩:=hrel
  have HV:=hd_ hv
  clear hv
  by_cases hlt:k<x.pn
  ·obtain ⟨b,o,p,hA,hb,hp,h0,h1⟩:=HD.out.at_ hlt
   have HP:=hd_ (lvOf_at n hp)
   clear hp
   by_cases he:p.id=n
   ·go_wp2
    go_ret
    exact ⟨ret_int (by rw [← HV.out,HP.out,if_pos he]),by exact bel_⟩
   ·go_wp2
    go_roundw
    case rel=>exact ⟨k+1,by omega,by go_num,by rw [← HV.out,HP.out,if_neg he],by rw [hA]⟩
    case measure=>exact ms_
  ·have hkn:Hid (k=x.pn):=by show _=_;omega
   go_wp2
   go_ret
   exact ⟨ret_int (by rw [← HV.out,List.drop_eq_nil_of_le (by rw [HL.out,hkn.out];exact lr_)];rfl),by exact bel_⟩
theorem p_has (pp:List Ppr) (x:Lsl) (a b:Int) (w:World) (hn:x.pn≤9223372036854775807) (hd:Pps w w.heap.size x.pA x.pn pp) :
 Calls Tryz.prog 60 #[.agg #[.slice x.pA x.pn x.pc,.slice x.rA x.rn x.rc,.slice x.tA x.tn x.tc,.slice x.sA x.sn x.sc],.agg #[.int .i64 a,.int .i64 b]] w fun e w'=>e=.returned (.bool (folB pp a b))∧Below w.heap.size w w':=by
 have HD:=hd_ hd
 clear hd
 go_enter Tryz.func60,Tryz.ntmps60
 go_wp2_with fail
 have HD1:Hid (Pps ((w.alloc (.cells #[.slice x.pA x.pn x.pc,.slice x.rA x.rn x.rc,.slice x.tA x.tn x.tc,.slice x.sA x.sn x.sc] 32)).alloc (.cells #[.int .i64 a,.int .i64 b] 48)) ((w.alloc (.cells #[.slice x.pA x.pn x.pc,.slice x.rA x.rn x.rc,.slice x.tA x.tn x.tc,.slice x.sA x.sn x.sc] 32)).alloc (.cells #[.int .i64 a,.int .i64 b] 48)).heap.size x.pA x.pn pp):=by
  show Sq _ _ _ _ _ _ _
  exact HD.out.now abP (by exact bel_)
 (refine rg_ ?_;(repeat (go_big_quiet_step ((first | (go_at_call_of 67 (Value.agg #[.slice x.pA x.pn x.pc,.slice x.rA x.rn x.rc,.slice x.tA x.tn x.tc,.slice x.sA x.sn x.sc]);exact Calls.grow_all (fun g=>p_leaves pp x a g.1 hn (HD1.out.now abP g.2))) | (go_at_call 106;exact Calls.grow_same (p_within _ _ _ _))))));refine qn_ fun w1 hb1 hc1 hf1=>?_)
 go_wp2_with fail
 go_ret
 exact ⟨rfl,bt_ (W:=(w.alloc (.cells #[.slice x.pA x.pn x.pc,.slice x.rA x.rn x.rc,.slice x.tA x.tn x.tc,.slice x.sA x.sn x.sc] 32)).alloc (.cells #[.int .i64 a,.int .i64 b] 48)) (by exact bel_) hb1⟩
theorem p_folioOf (s:Sgt) (w:World):Calls Tryz.prog 87 #[.agg #[.int .i64 s.src,.int .i64 s.per,.int .i64 s.pap,.int .i64 s.leaf,.int .i64 s.day,.int .i64 s.kn,.int .i64 s.un]] w fun e w'=>e=.returned (.agg #[.int .i64 s.pap,.int .i64 s.leaf])∧Below w.heap.size w w':=by
 go_enter Tryz.func87,Tryz.ntmps87
 go_wp2
 refine bodyPost_ret (v:=.agg #[.int .i64 s.pap,.int .i64 s.leaf]) (by simp [results,Tryz.f87,go_sem]) rfl ⟨rfl,by exact bel_⟩
theorem infoI2:(Tryz.prog.info? 3).map (fun i=>(i.zero,i.size,i.bytes))=some (some (.int .i64 0),1,8):=by kernel_rfl
def intL (xs:List Int):List Value:=xs.map fun x=>.int .i64 x
def srcL (l:Led):List Int:=l.rc.map Rcp.src ++ (l.rt.map Rtn.src ++ l.sg.map Sgt.src)
def RetO (xs:List Int) (w:World) (e:Ending) (w':World):Prop:=∃ v,e=.returned v∧Below w.heap.size w w'∧w'.ownsRow w.heap.size 3 1 v xs.length (intL xs)
theorem own_dn {W:World} {base base' size n:Nat} {e:TypeId} {v:Value} {xs:List Value} (h:W.ownsRow base e size v n xs) (hb:base'≤base):W.ownsRow base' e size v n xs :=
 ⟨h.1,h.2.imp id fun ⟨g,cap,cur,hv,hB,r⟩=>⟨g,cap,cur,hv,Nat.le_trans hb hB,r⟩⟩
theorem OwnB.below {w W W0 w2:World} {B n:Nat} {e:TypeId} {v:Value} {xs:List Value} (hB:Below B w W) (ho:W0.ownsRow B e 1 v n xs) (hs:B≤W.heap.size) (hg:W.grownBy w2 v.ownBlock):Below B w w2 :=
 hB.grown hg hs fun k ek=>own_base ho ek
theorem RetO.mk' {l:Led} {w wr W:World} {a b c:Nat} {v:Value} (h:wr.ownsRow (w.heap.size+1) 3 1 v (a+b+c) (intL (srcL l))) (hB:Below (w.heap.size+1) W wr) (h1:l.rc.length=a) (h2:l.rt.length=b) (h3:l.sg.length=c) (hW:Below w.heap.size w W:=by exact bel_):RetO (srcL l) w (.returned v) wr:=by
 refine ⟨v,rfl,hW.trans (hB.mono (Nat.le_succ _)),?_⟩
 have e:(srcL l).length=a+b+c:=by simp [srcL,h1,h2,h3];omega
 rw [e]
 exact own_dn h (Nat.le_succ _)
set_option maxRecDepth 10000 in
theorem p_sources (l:Led) (x:Lsl) (w:World) (hr:x.rn≤60) (ht:x.tn≤60) (hs:x.sn≤60) (hd:LedIn w w.heap.size x l) :
 Calls Tryz.prog 88 #[.agg #[.slice x.pA x.pn x.pc,.slice x.rA x.rn x.rc,.slice x.tA x.tn x.tc,.slice x.sA x.sn x.sc]] w (RetO (srcL l) w):=by
 obtain ⟨i0,hi,hz0,hz1,hz2⟩:=info_parts infoI2
 have hl1:=hd.r.len
 have hl2:=hd.t.len
 have hl3:=hd.s.len
 have HD:=hd_ (hd.now ((Below.refl w.heap.size w).alloc lr_ (.cells #[.slice x.pA x.pn x.pc,.slice x.rA x.rn x.rc,.slice x.tA x.tn x.tc,.slice x.sA x.sn x.sc] 32)))
 have HL1:=hd_ hl1
 have HL2:=hd_ hl2
 have HL3:=hd_ hl3
 clear hl1 hl2 hl3 hd
 go_enter Tryz.func88,Tryz.ntmps88
 go_wp2
 go_loopw [3,13] (fun v i wr=>∃ k:Nat,k≤x.rn∧i=.int .i64 k∧wr.ownsRow (w.heap.size+1) 3 1 v (0+k) (intL ([] ++ (l.rc.take k).map Rcp.src))∧Below (w.heap.size+1) (w.alloc (.cells #[.slice x.pA x.pn x.pc,.slice x.rA x.rn x.rc,.slice x.tA x.tn x.tc,.slice x.sA x.sn x.sc] 32)) wr) (fun _ i _=>x.rn - (intOf i).toNat)
 case atStart=>exact ⟨0,by omega,rfl,World.ownsRow_nil _ _ _ _,by exact bel_⟩
 case round =>
  obtain ⟨k1,hk0,rfl,hown,hB⟩:=hrel
  have hs0:w.heap.size+1≤wr.heap.size:=by have h:=hB.size;simp at h;omega
  obtain ⟨hcw,hfw⟩:=bcell (W:=(w.alloc (.cells #[.slice x.pA x.pn x.pc,.slice x.rA x.rn x.rc,.slice x.tA x.tn x.tc,.slice x.sA x.sn x.sc] 32))) (by simpa using hB)
  by_cases hlt:k1<x.rn
  ·obtain ⟨b,o,e,hA,hb,he,hq⟩:=(Sq.ext HD.out.r abR (w':=wr) (by simpa using hB) lr_).at_ hlt
   obtain ⟨A1,n1,c1,⟨a0,a1,a2,a3,a4,a5,a6⟩,_⟩:=hq
   have hbr:b<wr.heap.size:=by simp at hb;omega
   have HE:Hid (intL ([] ++ (l.rc.take (k1+1)).map Rcp.src)=intL ([] ++ (l.rc.take k1).map Rcp.src) ++ [.int .i64 e.src]):=by
    show _=_
    rw [take_snoc_some he]
    simp [intL]
   have HO:=hd_ hown
   have HB:=hd_ hB
   clear he hB
   go_wp2_with (at_builtin;refine wpList_append_own _ rfl (.tmp 17) (.tmp 20) 33 rfl (w.heap.size+1) 3 i0 _ 1 8 Tryz.underlying33 hi hz0 hz1 hz2 rfl (by decide) _ _ _ rfl ((hown.alloc _).alloc _) ⟨wr.heap.size+1,0,none⟩ 1 1 [.int .i64 e.src] rfl rfl ?c1 ?c2 ?c3 ?c4 ?c5 ?_;rotate_left 5;intro v' w2 hown2 hgrow2 _)
   case c1=>intro j u hj;match j,hj with | 0,hj=>simp at hj;subst hj;simp [Addr.add]
   case c2=>simp [Value.oneCell']
   case c3=>unfold maxLen;omega
   case c4=>omega
   case c5=>simp;omega
   go_roundw
   case rel =>
    (repeat apply Exists.intro)
    refine ⟨⟨k1+1,by omega,by go_num,by rw [HE.out];exact hown2,OwnB.below (by have:=HB.out;exact bel_) (HO.out) (by simp;omega) hgrow2⟩,?_⟩
    first | rfl | (rw [hA] <;> rfl) | rw [hA]
   case measure=>exact ms_
  ·have hkn:Hid (k1=x.rn):=by show _=_;omega
   have HBW:=hd_ hB
   have HOW:=hown
   rw [hkn.out,List.take_of_length_le (by rw [HL1.out];exact lr_)] at HOW
   have HOW:=hd_ HOW
   clear hB hown
   go_wp2
   go_loopw [3,26] (fun v i wr=>∃ k:Nat,k≤x.tn∧i=.int .i64 k∧wr.ownsRow (w.heap.size+1) 3 1 v (0+x.rn+k) (intL (([] ++ l.rc.map Rcp.src) ++ (l.rt.take k).map Rtn.src))∧Below (w.heap.size+1) (w.alloc (.cells #[.slice x.pA x.pn x.pc,.slice x.rA x.rn x.rc,.slice x.tA x.tn x.tc,.slice x.sA x.sn x.sc] 32)) wr) (fun _ i _=>x.tn - (intOf i).toNat)
   case atStart=>exact ⟨0,by omega,rfl,by simpa using HOW.out,HBW.out⟩
   case round =>
    obtain ⟨k2,hk1,rfl,hown,hB⟩:=hrel
    have hs0:w.heap.size+1≤wr.heap.size:=by have h:=hB.size;simp at h;omega
    obtain ⟨hcw,hfw⟩:=bcell (W:=(w.alloc (.cells #[.slice x.pA x.pn x.pc,.slice x.rA x.rn x.rc,.slice x.tA x.tn x.tc,.slice x.sA x.sn x.sc] 32))) (by simpa using hB)
    by_cases hlt:k2<x.tn
    ·obtain ⟨b,o,e,hA,hb,he,hq⟩:=(Sq.ext HD.out.t abT (w':=wr) (by simpa using hB) lr_).at_ hlt
     obtain ⟨A1,n1,c1,⟨a0,a1,a2,a3,a4,a5,a6,a7⟩,_⟩:=hq
     have hbr:b<wr.heap.size:=by simp at hb;omega
     have HE:Hid (intL (([] ++ l.rc.map Rcp.src) ++ (l.rt.take (k2+1)).map Rtn.src)=intL (([] ++ l.rc.map Rcp.src) ++ (l.rt.take k2).map Rtn.src) ++ [.int .i64 e.src]):=by
      show _=_
      rw [take_snoc_some he]
      simp [intL]
     have HO:=hd_ hown
     have HB:=hd_ hB
     clear he hB
     go_wp2_with (at_builtin;refine wpList_append_own _ rfl (.tmp 30) (.tmp 33) 33 rfl (w.heap.size+1) 3 i0 _ 1 8 Tryz.underlying33 hi hz0 hz1 hz2 rfl (by decide) _ _ _ rfl ((hown.alloc _).alloc _) ⟨wr.heap.size+1,0,none⟩ 1 1 [.int .i64 e.src] rfl rfl ?c1 ?c2 ?c3 ?c4 ?c5 ?_;rotate_left 5;intro v' w2 hown2 hgrow2 _)
     case c1=>intro j u hj;match j,hj with | 0,hj=>simp at hj;subst hj;simp [Addr.add]
     case c2=>simp [Value.oneCell']
     case c3=>unfold maxLen;omega
     case c4=>omega
     case c5=>simp;omega
     go_roundw
     case rel =>
      (repeat apply Exists.intro)
      refine ⟨⟨k2+1,by omega,by go_num,by rw [HE.out];exact hown2,OwnB.below (by have:=HB.out;exact bel_) (HO.out) (by simp;omega) hgrow2⟩,?_⟩
      first | rfl | (rw [hA] <;> rfl) | rw [hA]
     case measure=>exact ms_
    ·have hkn:Hid (k2=x.tn):=by show _=_;omega
     have HBW:=hd_ hB
     have HOW:=hown
     rw [hkn.out,List.take_of_length_le (by rw [HL2.out];exact lr_)] at HOW
     have HOW:=hd_ HOW
     clear hB hown
     go_wp2
     go_loopw [3,39] (fun v i wr=>∃ k:Nat,k≤x.sn∧i=.int .i64 k∧wr.ownsRow (w.heap.size+1) 3 1 v (0+x.rn+x.tn+k) (intL ((([] ++ l.rc.map Rcp.src) ++ l.rt.map Rtn.src) ++ (l.sg.take k).map Sgt.src))∧Below (w.heap.size+1) (w.alloc (.cells #[.slice x.pA x.pn x.pc,.slice x.rA x.rn x.rc,.slice x.tA x.tn x.tc,.slice x.sA x.sn x.sc] 32)) wr) (fun _ i _=>x.sn - (intOf i).toNat)
     case atStart=>exact ⟨0,by omega,rfl,by simpa using HOW.out,HBW.out⟩
     case round =>
      obtain ⟨k3,hk2,rfl,hown,hB⟩:=hrel
      have hs0:w.heap.size+1≤wr.heap.size:=by have h:=hB.size;simp at h;omega
      obtain ⟨hcw,hfw⟩:=bcell (W:=(w.alloc (.cells #[.slice x.pA x.pn x.pc,.slice x.rA x.rn x.rc,.slice x.tA x.tn x.tc,.slice x.sA x.sn x.sc] 32))) (by simpa using hB)
      by_cases hlt:k3<x.sn
      ·obtain ⟨b,o,e,hA,hb,he,hq⟩:=(Sq.ext HD.out.s abS (w':=wr) (by simpa using hB) lr_).at_ hlt
       obtain ⟨a0,a1,a2,a3,a4,a5,a6⟩:=hq
       have hbr:b<wr.heap.size:=by simp at hb;omega
       have HE:Hid (intL ((([] ++ l.rc.map Rcp.src) ++ l.rt.map Rtn.src) ++ (l.sg.take (k3+1)).map Sgt.src)=intL ((([] ++ l.rc.map Rcp.src) ++ l.rt.map Rtn.src) ++ (l.sg.take k3).map Sgt.src) ++ [.int .i64 e.src]):=by
        show _=_
        rw [take_snoc_some he]
        simp [intL]
       have HO:=hd_ hown
       have HB:=hd_ hB
       clear he hB
       go_wp2_with (at_builtin;refine wpList_append_own _ rfl (.tmp 43) (.tmp 46) 33 rfl (w.heap.size+1) 3 i0 _ 1 8 Tryz.underlying33 hi hz0 hz1 hz2 rfl (by decide) _ _ _ rfl ((hown.alloc _).alloc _) ⟨wr.heap.size+1,0,none⟩ 1 1 [.int .i64 e.src] rfl rfl ?c1 ?c2 ?c3 ?c4 ?c5 ?_;rotate_left 5;intro v' w2 hown2 hgrow2 _)
       case c1=>intro j u hj;match j,hj with | 0,hj=>simp at hj;subst hj;simp [Addr.add]
       case c2=>simp [Value.oneCell']
       case c3=>unfold maxLen;omega
       case c4=>omega
       case c5=>simp;omega
       go_roundw
       case rel =>
        (repeat apply Exists.intro)
        refine ⟨⟨k3+1,by omega,by go_num,by rw [HE.out];exact hown2,OwnB.below (by have:=HB.out;exact bel_) (HO.out) (by simp;omega) hgrow2⟩,?_⟩
        first | rfl | (rw [hA] <;> rfl) | rw [hA]
       case measure=>exact ms_
      ·have hkn:Hid (k3=x.sn):=by show _=_;omega
       have HBW:=hd_ hB
       have HOW:=hown
       rw [hkn.out,List.take_of_length_le (by rw [HL3.out];exact lr_)] at HOW
       have HOW:=hd_ HOW
       clear hB hown
       go_wp2
       go_ret
       exact RetO.mk' (by simpa [srcL] using HOW.out) HBW.out HL1.out HL2.out HL3.out
theorem p_CheckReceipt (r:Rcp) (A:Option Addr) (n c:Nat) (w:World) (hn:n≤9223372036854775807) (hd:Is w w.heap.size A n r.lv) :
 Calls Tryz.prog 49 #[.agg #[.int .i64 r.src,.int .i64 r.bor,.int .i64 r.pap,.slice A n c,.int .i64 r.day,.int .i64 r.kn,.int .i64 r.un]] w fun e w'=>e=.returned (.int .i64 (errI r.okB 21))∧Below w.heap.size w w':=by
 have HD:=hd_ hd
 clear hd
 go_enter Tryz.func49,Tryz.ntmps49
 go_wp2_with (first | (go_at_call 107;refine (p_isSource _ _).mono ?_;rintro e w1 ⟨rfl,rfl⟩) | (go_at_call 108;refine (p_isPerson _ _).mono ?_;rintro e w1 ⟨rfl,rfl⟩) | (go_at_call 105;refine (p_isPaper _ _).mono ?_;rintro e w1 ⟨rfl,rfl⟩) | (go_at_call 109;refine (p_areLeaves r.lv A n c _ hn (HD.out.now (by exact bel_))).mono ?_;rintro e w1 ⟨rfl,hb1⟩;obtain ⟨hc1,hf1⟩:=bcell hb1;have HB1:Below w.heap.size w w1:=bt_ (by exact bel_) hb1;have hs1:=HB1.size) | (go_at_call 110;refine (p_isDay _ _).mono ?_;rintro e w1 ⟨rfl,rfl⟩) | (go_at_call 111;refine (p_areTimes _ _ _).mono ?_;rintro e w1 ⟨rfl,rfl⟩) | (go_at_call 106;refine (p_within _ _ _ _).mono ?_;rintro e w1 ⟨rfl,rfl⟩) | (go_at_call 61;refine (p_verdict _ _ _).mono ?_;rintro e w1 ⟨rfl,rfl⟩))
 all_goals
  go_ret
  exact ⟨by simp_all [Rcp.okB],by first | assumption | exact bel_⟩
theorem p_CheckReturn (r:Rtn) (A:Option Addr) (n c:Nat) (w:World) (hn:n≤9223372036854775807) (hd:Is w w.heap.size A n r.lv) :
 Calls Tryz.prog 52 #[.agg #[.int .i64 r.src,.int .i64 r.rcp,.int .i64 r.per,.slice A n c,.int .i64 r.lo,.int .i64 r.hi,.int .i64 r.kn,.int .i64 r.un]] w fun e w'=>e=.returned (.int .i64 (errI r.okB 22))∧Below w.heap.size w w':=by
 have HD:=hd_ hd
 clear hd
 go_enter Tryz.func52,Tryz.ntmps52
 go_wp2_with (first | (go_at_call 107;refine (p_isSource _ _).mono ?_;rintro e w1 ⟨rfl,rfl⟩) | (go_at_call 108;refine (p_isPerson _ _).mono ?_;rintro e w1 ⟨rfl,rfl⟩) | (go_at_call 109;refine (p_areLeaves r.lv A n c _ hn (HD.out.now (by exact bel_))).mono ?_;rintro e w1 ⟨rfl,hb1⟩;obtain ⟨hc1,hf1⟩:=bcell hb1;have hz1:w.heap.size<w1.heap.size:=(by have h:=hb1.size;(try simp only [World.size_alloc,World.size_setCell] at h);omega);have HB1:Below w.heap.size w w1:=bt_ (by exact bel_) hb1) | (go_at_call 112;refine (p_areDays _ _ _).mono ?_;rintro e w1c ⟨rfl,hb1c⟩;obtain ⟨hc1c,hf1c⟩:=bcell hb1c;have HB1c:Below w.heap.size w w1c:=bt_ (by exact bel_) hb1c;have hs1c:=HB1c.size) | (go_at_call 111;refine (p_areTimes _ _ _).mono ?_;rintro e w1 ⟨rfl,rfl⟩) | (go_at_call 106;refine (p_within _ _ _ _).mono ?_;rintro e w1 ⟨rfl,rfl⟩) | (go_at_call 61;refine (p_verdict _ _ _).mono ?_;rintro e w1 ⟨rfl,rfl⟩))
 all_goals
  go_ret
  exact ⟨by simp_all [Rtn.okB],by first | assumption | exact bel_⟩
end Go.Proofs.YtmcmbicapdcfmaaGreat
