/- Layer 2 of the texts that LoanPlaces takes: Palq. -/
import Derived.Test.YtoiompoapikkbaaGreatPakq
import Derived.Test.YtoiompoapikkbaaGreatPajq
set_option linter.unusedVariables false
set_option linter.unusedSimpArgs false
set_option maxHeartbeats 16000000
namespace Go.Proofs.YtoiompoapikkbaaGreat
open Go.RowKit
theorem infoFol:(Tryz.prog.info? 60).map (fun i=>(i.zero,i.size,i.bytes))=some (some (.agg #[.int .i64 0,.int .i64 0]),2,16):=by kernel_rfl
def folCells (fs:List (Int × Int)):List Value:=fs.flatMap fun f=>[.int .i64 f.1,.int .i64 f.2]
def rcFol (r:Rcp):List (Int × Int):=r.lv.map fun x=>(r.pap,x)
def namL (l:Led):List (Int × Int):=l.rc.flatMap rcFol ++ l.sg.map fun s=>(s.pap,s.leaf)
def RetF (fs:List (Int × Int)) (w:World) (e:Ending) (w':World):Prop:=∃ v,e=.returned v∧Below w.heap.size w w'∧w'.ownsRow w.heap.size 60 2 v fs.length (folCells fs)
theorem own_ne {W:World} {base size n b:Nat} {e T:TypeId} {v:Value} {xs:List Value} {cs:Array Value} (h:W.ownsRow base e size v n xs) (hb:W.heap[b]?=some (.cells cs T (0,0))) (hT:T≠e):some b≠v.ownBlock:=by
 rcases h.2 with ⟨rfl,_⟩ | ⟨g,cap,cur,rfl,_,hg,_⟩
 ·simp [Value.ownBlock]
 ·intro he
  simp only [Value.ownBlock,Option.some.injEq] at he
  subst he
  rw [hg] at hb
  simp only [Option.some.injEq,Obj.cells.injEq] at hb
  exact hT hb.2.1.symm
theorem box_kept {W W0 w':World} {base size n b:Nat} {e T:TypeId} {v:Value} {xs:List Value} {cs:Array Value} (hb:W.heap[b]?=some (.cells cs T (0,0))) (h:W0.ownsRow base e size v n xs) (hb0:W0.heap[b]?=some (.cells cs T (0,0))) (hT:T≠e) (hg:W.grownBy w' v.ownBlock):w'.heap[b]?=some (.cells cs T (0,0)) :=
 (hg.block b (Array.getElem?_eq_some_iff.1 hb).1 (own_ne h hb0 hT)).trans hb
theorem OwnS.below {w W W0 w2:World} {B size n:Nat} {e:TypeId} {v:Value} {xs:List Value} (hB:Below B w W) (ho:W0.ownsRow B e size v n xs) (hs:B≤W.heap.size) (hg:W.grownBy w2 v.ownBlock):Below B w w2 :=
 hB.grown hg hs fun k ek=>own_base ho ek
theorem own_ex {W W':World} {base size n:Nat} {e:TypeId} {v:Value} {xs:List Value} (h:W.ownsRow base e size v n xs) (hb:Below W.heap.size W W'):W'.ownsRow base e size v n xs:=by
 refine ⟨h.1,h.2.imp id ?_⟩
 rintro ⟨g,cap,cur,hv,hB,hg,r⟩
 exact ⟨g,cap,cur,hv,hB,(hb.block g (Array.getElem?_eq_some_iff.1 hg).1).trans hg,r⟩
theorem take_fol {l:List Rcp} {k:Nat} {r:Rcp} (h:l[k]?=some r):(l.take (k+1)).flatMap rcFol=(l.take k).flatMap rcFol ++ rcFol r:=by rw [take_snoc_some h];simp
theorem fol_len {l:List Rcp} (h:∀ r∈l,r.lv.length≤30) (k:Nat):((l.take k).flatMap rcFol).length≤30*k:=by
 induction k generalizing l with
 | zero=>simp
 | succ k ih =>
   cases l with
   | nil=>simp
   | cons r l =>
     have h1:=ih (l:=l) fun r hr=>h r (List.mem_cons_of_mem _ hr)
     have h2:=h r (by simp)
     simp only [List.take_succ_cons,List.flatMap_cons,List.length_append,rcFol,List.length_map] at h1 ⊢
     omega
set_option maxRecDepth 10000 in
theorem p_named (l:Led) (x:Lsl) (w:World) (hr:x.rn≤60) (hs:x.sn≤60) (hl30:∀ r∈l.rc,r.lv.length≤30) (hd:LedIn w w.heap.size x l) :
 Calls Tryz.prog 95 #[.agg #[.slice x.pA x.pn x.pc,.slice x.rA x.rn x.rc,.slice x.tA x.tn x.tc,.slice x.sA x.sn x.sc]] w (RetF (namL l) w):=by
 obtain ⟨i0,hi,hz0,hz1,hz2⟩:=info_parts infoFol
 have hl1:=hd.r.len
 have hl3:=hd.s.len
 have HD:=hd_ (hd.now ((Below.refl w.heap.size w).alloc lr_ (.cells #[.slice x.pA x.pn x.pc,.slice x.rA x.rn x.rc,.slice x.tA x.tn x.tc,.slice x.sA x.sn x.sc] 27)))
 have HL1:=hd_ hl1
 have HL3:=hd_ hl3
 have H30:=hd_ hl30
 clear hl1 hl3 hd hl30
 go_enter Tryz.func95,Tryz.ntmps95
 go_wp2
 go_loopw [3,13] (fun v i wr=>∃ k:Nat,k≤x.rn∧i=.int .i64 k∧wr.ownsRow (w.heap.size+1) 60 2 v ((l.rc.take k).flatMap rcFol).length (folCells ((l.rc.take k).flatMap rcFol))∧Below (w.heap.size+1) (w.alloc (.cells #[.slice x.pA x.pn x.pc,.slice x.rA x.rn x.rc,.slice x.tA x.tn x.tc,.slice x.sA x.sn x.sc] 27)) wr) (fun _ i _=>x.rn - (intOf i).toNat)
 case atStart=>exact ⟨0,by omega,rfl,World.ownsRow_nil _ _ _ _,by exact bel_⟩
 case round =>
  obtain ⟨k,hk,rfl,hown,hB⟩:=hrel
  have hs0:w.heap.size+1≤wr.heap.size:=by have h:=hB.size;simp at h;omega
  by_cases hlt:k<x.rn
  ·obtain ⟨b,o,e,hA,hb,he,hq⟩:=(Sq.ext HD.out.r abR (w':=wr) (by simpa using hB) lr_).at_ hlt
   obtain ⟨A1,n1,c1,⟨a0,a1,a2,a3,a4,a5,a6⟩,hi1,hc1,hm1⟩:=hq
   have hbr:b<wr.heap.size:=by simp at hb;omega
   have hn1:n1≤30:=by rw [← hi1.len];exact H30.out e (List.mem_of_getElem? he)
   have hfl:=fol_len H30.out k
   have HE:=hd_ (take_fol he)
   have HI:=hd_ hi1
   have HIL:=hd_ hi1.len
   obtain ⟨L0,hL0⟩:∃ L0,(l.rc.take k).flatMap rcFol=L0:=⟨_,rfl⟩
   rw [hL0] at hown hfl HE
   obtain ⟨wo,hwo⟩:∃ wo,wo=wr:=⟨_,rfl⟩
   subst hwo
   have HB:=hd_ hB
   have HO:=hd_ hown
   clear he hi1 hB hL0 hown
   go_wp2
   have HAA:=hd_ hA
   clear hA
   go_loopw [3,20] (fun v i wq=>∃ j:Nat,j≤n1∧i=.int .i64 j∧wq.ownsRow (w.heap.size+1) 60 2 v (L0.length+j) (folCells (L0 ++ (e.lv.take j).map fun y=>(e.pap,y)))∧Below (w.heap.size+1) wo wq∧wq.heap[wo.heap.size]?=some (.cells #[.int .i64 e.src,.int .i64 e.bor,.int .i64 e.pap,.slice A1 n1 c1,.int .i64 e.day,.int .i64 e.kn,.int .i64 e.un] 32 (0,0))) (fun _ i _=>n1 - (intOf i).toNat)
   case atStart=>exact ⟨0,by omega,rfl,by simpa using HO.out.alloc _,by exact bel_,by simpa using World.alloc_heap_new wo _⟩
   case round =>
    obtain ⟨j,hj,rfl,hown,hQ,hbox⟩:=hrel
    have hBQ:Below (w.heap.size+1) (w.alloc (.cells #[.slice x.pA x.pn x.pc,.slice x.rA x.rn x.rc,.slice x.tA x.tn x.tc,.slice x.sA x.sn x.sc] 27)) wr:=HB.out.trans hQ
    have hbl:wo.heap.size<wr.heap.size:=(Array.getElem?_eq_some_iff.1 hbox).1
    have x2:wr.cell? ⟨wo.heap.size,2,none⟩=some (.int .i64 e.pap):=by simp [World.cell?,hbox]
    by_cases hjn:j<n1
    ·have HI2:Is wr (w.alloc (.cells #[.slice x.pA x.pn x.pc,.slice x.rA x.rn x.rc,.slice x.tA x.tn x.tc,.slice x.sA x.sn x.sc] 27)).heap.size A1 n1 e.lv:=Rd.keep HI.out (w':=wr) fun b' o' hb'=>hQ.cell (p:=⟨b',o',none⟩) (by simpa using hb')
     obtain ⟨b1,o1,y,rfl,hb1,hy,hc0⟩:=HI2.at_ hjn
     clear HI2
     have HY:=hd_ (take_snoc_some hy)
     have HOI:=hd_ hown
     have HQ:=hd_ hQ
     have HBX:=hd_ hbox
     clear hy hQ hbox
     go_wp2_with (at_builtin;refine wpList_append_own _ rfl (.tmp 24) (.tmp 29) 71 rfl (w.heap.size+1) 60 i0 _ 2 16 Tryz.underlying71 hi hz0 hz1 hz2 rfl (by decide) _ _ _ rfl (hown.alloc _) ⟨wr.heap.size,0,none⟩ 1 1 [.int .i64 e.pap,.int .i64 y] rfl rfl ?c1 ?c2 ?c3 ?c4 ?c5 ?_;rotate_left 5;intro v' w2 hown2 hgrow2 _)
     case c1=>intro j u hj;match j,hj with
      | 0,hj=>simp at hj;subst hj;simp [Addr.add]
      | 1,hj=>simp at hj;subst hj;simp [Addr.add]
     case c2=>simp [Value.oneCell']
     case c3=>unfold maxLen;omega
     case c4=>omega
     case c5=>simp;omega
     go_roundw
     case rel =>
      refine ⟨j+1,by omega,by go_num,?_,OwnS.below (by have:=HQ.out;exact bel_) HOI.out (by simp;omega) hgrow2,?_⟩
      ·rw [HY.out]
       have e1:folCells (L0 ++ (e.lv.take j ++ [y]).map fun y=>(e.pap,y))=folCells (L0 ++ (e.lv.take j).map fun y=>(e.pap,y)) ++ [.int .i64 e.pap,.int .i64 y]:=by simp [folCells]
       rw [e1]
       exact hown2
      ·exact box_kept (W:=wr.alloc (.cells #[.int .i64 e.pap,.int .i64 y] 60)) ((Below.heap_alloc _ _ _ hbl).trans HBX.out) HOI.out HBX.out (by decide) hgrow2
     case measure=>exact ms_
    ·have hjk:Hid (j=n1):=by show _=_;omega
     have HOI:=hd_ hown
     have HBQ:=hd_ hBQ
     clear hown hBQ hbox hQ
     go_wp2
     have hA:=HAA.out
     go_roundw
     case rel =>
      refine ⟨k+1,by omega,by go_num,?_,HBQ.out⟩
      rw [HE.out]
      have h:=HOI.out
      rw [hjk.out,List.take_of_length_le (by rw [HIL.out];exact lr_)] at h
      rw [List.length_append,show (rcFol e).length=n1 from by rw [rcFol,List.length_map,HIL.out]]
      exact h
     case measure=>exact ms_
  ·have hkn:Hid (k=x.rn):=by show _=_;omega
   obtain ⟨hcw,hfw⟩:=bcell (W:=(w.alloc (.cells #[.slice x.pA x.pn x.pc,.slice x.rA x.rn x.rc,.slice x.tA x.tn x.tc,.slice x.sA x.sn x.sc] 27))) (by simpa using hB)
   have HBW:=hd_ hB
   have HOW:=hown
   rw [hkn.out,List.take_of_length_le (by rw [HL1.out];exact lr_)] at HOW
   have hlen1:(l.rc.flatMap rcFol).length≤1800:=by
    have h:=fol_len H30.out x.rn
    rw [List.take_of_length_le (by rw [HL1.out];exact lr_)] at h
    omega
   obtain ⟨L1,hL1⟩:∃ L1,l.rc.flatMap rcFol=L1:=⟨_,rfl⟩
   rw [hL1] at HOW hlen1
   have HOW:=hd_ HOW
   have HL:=hd_ hL1
   clear hB hown hL1
   go_wp2
   go_loopw [3,36] (fun v i wr=>∃ k:Nat,k≤x.sn∧i=.int .i64 k∧wr.ownsRow (w.heap.size+1) 60 2 v (L1.length+k) (folCells (L1 ++ (l.sg.take k).map fun s=>(s.pap,s.leaf)))∧Below (w.heap.size+1) (w.alloc (.cells #[.slice x.pA x.pn x.pc,.slice x.rA x.rn x.rc,.slice x.tA x.tn x.tc,.slice x.sA x.sn x.sc] 27)) wr) (fun _ i _=>x.sn - (intOf i).toNat)
   case atStart=>exact ⟨0,by omega,rfl,by simpa using HOW.out,HBW.out⟩
   case round =>
    obtain ⟨k3,hk3,rfl,hown,hB⟩:=hrel
    have hs0:w.heap.size+1≤wr.heap.size:=by have h:=hB.size;simp at h;omega
    by_cases hlt3:k3<x.sn
    ·obtain ⟨b,o,e,hA,hb,he,a0,a1,a2,a3,a4,a5,a6⟩:=(Sq.ext HD.out.s abS (w':=wr) (by simpa using hB) lr_).at_ hlt3
     have hbr:b<wr.heap.size:=by simp at hb;omega
     have HE:=hd_ (take_snoc_some he)
     have HO:=hd_ hown
     have HB:=hd_ hB
     clear he hB hown
     go_wp2_with (go_at_call 56;refine (p_folioOf e _).mono ?_;rintro e' w4 ⟨rfl,hb4⟩;refine Hid.out ?_)
     refine hd_ ?_
     have hQ4:Below wr.heap.size wr w4:=bt_ (W:=wr.alloc (.cells #[.int .i64 e.src,.int .i64 e.per,.int .i64 e.pap,.int .i64 e.leaf,.int .i64 e.day,.int .i64 e.kn,.int .i64 e.un] 38)) (by exact bel_) hb4
     have hs4:=hQ4.size
     have hown4:=own_ex HO.out hQ4
     have HO4:=hd_ hown4
     have HQ4:=hd_ hQ4
     clear hb4 hQ4
     go_wp2_with (at_builtin;refine wpList_append_own _ rfl (.tmp 40) (.tmp 43) 71 rfl (w.heap.size+1) 60 i0 _ 2 16 Tryz.underlying71 hi hz0 hz1 hz2 rfl (by decide) _ _ _ rfl (hown4.alloc _) ⟨w4.heap.size,0,none⟩ 1 1 [.int .i64 e.pap,.int .i64 e.leaf] rfl rfl ?c1 ?c2 ?c3 ?c4 ?c5 ?_;rotate_left 5;intro v' w2 hown2 hgrow2 _)
     case c1=>intro j u hj;match j,hj with
      | 0,hj=>simp at hj;subst hj;simp [Addr.add]
      | 1,hj=>simp at hj;subst hj;simp [Addr.add]
     case c2=>simp [Value.oneCell']
     case c3=>unfold maxLen;omega
     case c4=>omega
     case c5=>simp;omega
     go_roundw
     case rel =>
      (repeat apply Exists.intro)
      refine ⟨⟨k3+1,by omega,by go_num,?_,OwnS.below ((HB.out.trans (HQ4.out.mono hs0)).alloc (by omega) _) HO4.out (by simp;omega) hgrow2⟩,?_⟩
      ·rw [HE.out]
       have e1:folCells (L1 ++ (l.sg.take k3 ++ [e]).map fun s=>(s.pap,s.leaf))=folCells (L1 ++ (l.sg.take k3).map fun s=>(s.pap,s.leaf)) ++ [.int .i64 e.pap,.int .i64 e.leaf]:=by simp [folCells]
       rw [e1]
       exact hown2
      ·first | rfl | (rw [hA] <;> rfl) | rw [hA]
     case measure=>exact ms_
    ·have hk3n:Hid (k3=x.sn):=by show _=_;omega
     have HO:=hd_ hown
     have HB:=hd_ hB
     clear hown hB
     go_wp2
     go_ret
     refine ⟨_,rfl,(show Below w.heap.size w (w.alloc (.cells #[.slice x.pA x.pn x.pc,.slice x.rA x.rn x.rc,.slice x.tA x.tn x.tc,.slice x.sA x.sn x.sc] 27)) by exact bel_).trans (HB.out.mono (Nat.le_succ _)),?_⟩
     have h:=HO.out
     rw [hk3n.out,List.take_of_length_le (by rw [HL3.out];exact lr_)] at h
     rw [namL,HL.out,List.length_append,List.length_map,HL3.out]
     exact own_dn h (Nat.le_succ _)
def QF (w:World) (_ b o:Nat) (f:Int × Int):Prop:=w.cell? ⟨b,o,none⟩=some (.int .i64 f.1)∧w.cell? ⟨b,o+1,none⟩=some (.int .i64 f.2)
theorem abF:Abides QF:=⟨fun w w' B b o x h hb hk=>⟨(hk _ _ hb).trans h.1,(hk _ _ hb).trans h.2⟩,fun _ _ _ _ _ _ h _=>h⟩
abbrev Fos:=Sq QF 2
theorem folCells_get:∀ (fs:List (Int × Int)) (k:Nat) (f:Int × Int),fs[k]?=some f→(folCells fs)[k*2]?=some (.int .i64 f.1)∧(folCells fs)[k*2+1]?=some (.int .i64 f.2)
 | [],k,f,h=>by simp at h
 | g :: fs,0,f,h=>by
   simp at h
   subst h
   simp [folCells]
 | g :: fs,k+1,f,h=>by
   have h1:=folCells_get fs k f (by simpa using h)
   have e:folCells (g :: fs)=.int .i64 g.1 :: .int .i64 g.2 :: folCells fs:=rfl
   rw [e,show (k+1)*2=k*2+1+1 from by omega]
   simpa using h1
theorem fos_of_own {w:World} {base n c:Nat} {A:Option Addr} {fs:List (Int × Int)} (h:w.ownsRow base 60 2 (.slice A n c) n (folCells fs)) (hn:fs.length=n):Fos w w.heap.size A n fs:=by
 have hr:=Rd.of_own h
 refine ⟨hn,fun h0=>?_⟩
 obtain ⟨b,o,e,hb,hc⟩:=hr.2 h0
 refine ⟨b,o,e,hb,fun k f hf=>?_⟩
 obtain ⟨h1,h2⟩:=folCells_get fs k f hf
 exact ⟨hc _ _ h1,by have:=hc _ _ h2;rwa [← Nat.add_assoc] at this⟩
def LedBox (w:World) (bl:Nat) (x:Lsl):Prop:=w.cell? ⟨bl,0,none⟩=some (.slice x.pA x.pn x.pc)∧w.cell? ⟨bl,1,none⟩=some (.slice x.rA x.rn x.rc)∧w.cell? ⟨bl,2,none⟩=some (.slice x.tA x.tn x.tc)∧w.cell? ⟨bl,3,none⟩=some (.slice x.sA x.sn x.sc)
theorem LedBox.lt {w:World} {bl:Nat} {x:Lsl} (h:LedBox w bl x):bl<w.heap.size:=block_lt_of_cell h.1
theorem LedBox.ext {w w':World} {bl:Nat} {x:Lsl} (h:LedBox w bl x) (hb:Below w.heap.size w w'):LedBox w' bl x:=by
 have hl:=h.lt
 obtain ⟨h0,h1,h2,h3⟩:=h
 exact ⟨(hb.cell (p:=⟨bl,0,none⟩) hl).trans h0,(hb.cell (p:=⟨bl,1,none⟩) hl).trans h1,(hb.cell (p:=⟨bl,2,none⟩) hl).trans h2,(hb.cell (p:=⟨bl,3,none⟩) hl).trans h3⟩
theorem p_notHas (pp:List Ppr) (x:Lsl) (a b:Int) (v:Bool) (bl:Nat) (w:World) (hn:x.pn≤9223372036854775807) (hd:Pps w w.heap.size x.pA x.pn pp) (hbx:LedBox w bl x) (hv:folB pp a b=v) :
 Calls Tryz.prog 96 #[.agg #[.int .i64 a,.int .i64 b],.pointer (some ⟨bl,0,none⟩)] w fun e w'=>e=.returned (.bool (!v))∧Below w.heap.size w w':=by
 subst hv
 have HD:=hd_ hd
 have hbl:=hbx.lt
 obtain ⟨c0,c1,c2,c3⟩:=hbx
 clear hd
 go_enter Tryz.func96,Tryz.ntmps96
 go_wp2_with (go_at_call 55;refine (p_has pp x a b _ hn (HD.out.now abP (by exact bel_))).mono ?_;rintro e w1 ⟨rfl,hb1⟩)
 go_ret
 exact ⟨rfl,bt_ (W:=w.alloc (.cells #[.int .i64 a,.int .i64 b] 60)) (by exact bel_) hb1⟩
def folsB (pp:List Ppr) (fs:List (Int × Int)):Bool:=fs.all fun f=>folB pp f.1 f.2
theorem l_indexFol (pp:List Ppr) (x:Lsl) (fs:List (Int × Int)) (bl:Nat) (A:Option Addr) (n c:Nat) (w:World) (hn:n≤1000000) (hp:x.pn≤9223372036854775807) (hd:Pps w w.heap.size x.pA x.pn pp) (hbx:LedBox w bl x) (h:Fos w w.heap.size A n fs) :
 Calls Tryz.prog 159 #[.slice A n c,.func (.func 96) #[] #[.pointer (some ⟨bl,0,none⟩)]] w fun e w'=>(∃ r:Int,e=.returned (.int .i64 r)∧decide (0≤r)=!folsB pp fs)∧Below w.heap.size w w':=by
 have HI:=hd_ h
 have HL:=hd_ h.len
 have HD:=hd_ hd
 have HX:=hd_ hbx
 clear h hd hbx
 go_enter Tryz.func159,Tryz.ntmps159
 go_wp2
 go_loopw [8] (fun i wr=>∃ k:Nat,k≤n∧i=.int .i64 k∧folsB pp (fs.take k)=true∧Below w.heap.size w wr) (fun i _=>n - (intOf i).toNat)
 case atStart=>exact ⟨0,by omega,rfl,rfl,Below.refl _ _⟩
 case round =>
  obtain ⟨k,hk,rfl,ho,hB⟩:=hrel
  have HO:=hd_ ho
  clear ho
  by_cases hlt:k<n
  ·obtain ⟨b,o,f,rfl,hb,hf,h0,h1⟩:=(Sq.ext HI.out abF hB lr_).at_ hlt
   have HF:=hd_ hf
   clear hf
   have hs0:=hB.size
   cases hv:folB pp f.1 f.2 with
   | true =>
     have hN:=hd_ (p_notHas pp x f.1 f.2 true bl wr hp (HD.out.now abP hB) (HX.out.ext hB) hv)
     have H1:Hid (folsB pp (fs.take (k+1))=true):=by
      show _=_
      have:=HO.out
      rw [folsB,take_snoc_some HF.out,List.all_append]
      rw [folsB] at this
      simp [this,hv]
     clear hv
     go_wp2_with (go_at_call 96;refine hN.out.mono ?_;rintro e w1 ⟨rfl,hb1⟩)
     go_roundw
     case rel=>exact ⟨k+1,by omega,by go_num,H1.out,bt_ hB hb1⟩
     case measure=>exact ms_
   | false =>
     have hN:=hd_ (p_notHas pp x f.1 f.2 false bl wr hp (HD.out.now abP hB) (HX.out.ext hB) hv)
     have H1:Hid (folsB pp fs=false):=by
      show _=_
      rw [folsB,List.all_eq_false]
      exact ⟨f,List.mem_of_getElem? HF.out,by simp [hv]⟩
     clear hv
     go_wp2_with (go_at_call 96;refine hN.out.mono ?_;rintro e w1 ⟨rfl,hb1⟩)
     go_ret
     exact ⟨⟨k,rfl,by rw [H1.out];simp⟩,bt_ hB hb1⟩
  ·have H1:Hid (folsB pp fs=true):=by
    show _=_
    have:=HO.out
    rwa [List.take_of_length_le (by rw [HL.out];omega)] at this
   go_wp2
   go_ret
   exact ⟨⟨-1,rfl,by rw [H1.out];rfl⟩,hB⟩
theorem l_containsFol (pp:List Ppr) (x:Lsl) (fs:List (Int × Int)) (bl:Nat) (A:Option Addr) (n c:Nat) (w:World) (hn:n≤1000000) (hp:x.pn≤9223372036854775807) (hd:Pps w w.heap.size x.pA x.pn pp) (hbx:LedBox w bl x) (h:Fos w w.heap.size A n fs) :
 Calls Tryz.prog 94 #[.slice A n c,.func (.func 96) #[] #[.pointer (some ⟨bl,0,none⟩)]] w fun e w'=>e=.returned (.bool (!folsB pp fs))∧Below w.heap.size w w':=by
 have HC:=hd_ (l_indexFol pp x fs bl A n c w hn hp hd hbx h)
 clear hd hbx h
 go_enter Tryz.func94,Tryz.ntmps94
 go_wp2_with (go_at_call 159;refine HC.out.mono ?_;rintro e w1 ⟨⟨r,rfl,hr⟩,hb1⟩)
 go_ret
 exact ⟨ret_bool (by rw [← hr]),hb1⟩
end Go.Proofs.YtoiompoapikkbaaGreat
