/- Layer 2 of the texts that LoanWheres takes: Uamq. -/
import Derived.Test.YtoiompoapikkbaaGreatUaiq
set_option linter.unusedVariables false
set_option linter.unusedSimpArgs false
/- Layer 2: how many leaves a paper has; whether a leaf is a folio of a ledger. -/
namespace Go.Proofs.YtoiompoapikkbaaGreat
open Go.RowKit
def lvOf:List Ppr→Int→Int
 | [],_=>0
 | p :: ps,n=>if p.id=n then p.lv else lvOf ps n
theorem lvOf_at {pp:List Ppr} {k:Nat} {p:Ppr} (n:Int) (h:pp[k]?=some p):lvOf (pp.drop k) n=if p.id=n then p.lv else lvOf (pp.drop (k+1)) n:=by
 have hlt:k<pp.length:=(List.getElem?_eq_some_iff.1 h).1
 have hp:pp[k]=p:=(List.getElem?_eq_some_iff.1 h).2
 rw [List.drop_eq_getElem_cons hlt,hp,lvOf]
def folB (pp:List Ppr) (pap leaf:Int):Bool:=withinB leaf 1 (lvOf pp pap)
set_option maxHeartbeats 1000000 in
theorem p_leaves (pp:List Ppr) (x:Lsl) (n:Int) (w:World) (hn:x.pn≤9223372036854775807) (hd:Pps w w.heap.size x.pA x.pn pp) :
 Calls Tryz.prog 125 #[.agg #[.slice x.pA x.pn x.pc,.slice x.rA x.rn x.rc,.slice x.tA x.tn x.tc,.slice x.sA x.sn x.sc],.int .i64 n] w fun e w'=>e=.returned (.int .i64 (lvOf pp n))∧Below w.heap.size w w':=by
 have hlen:=hd.len
 have HD:=Lib.hid hd
 have HL:=Lib.hid hlen
 clear hd hlen
 go_enter Tryz.func125,Tryz.ntmps125
 go_wp2
 go_loopw [10] (fun i wr=>∃ k:Nat,k≤x.pn∧i=.int .i64 k∧lvOf (pp.drop k) n=lvOf pp n∧Below w.heap.size w wr) (fun i _=>x.pn - (intOf i).toNat)
 case atStart=>exact ⟨0,by omega,rfl,rfl,by exact bel_⟩
 case round =>
  obtain ⟨k,hk,rfl,hv,hB⟩:=hrel
  have HV:=Lib.hid hv
  clear hv
  by_cases hlt:k<x.pn
  ·have hs0:w.heap.size≤wr.heap.size:=hB.size
   obtain ⟨b,o,p,hA,hb,hp,h0,h1⟩:=(Sq.ext HD.out abP hB (Nat.le_refl _)).at_ hlt
   have HP:=Lib.hid (lvOf_at n hp)
   have hbr:b<wr.heap.size:=by omega
   clear hp
   by_cases he:p.id=n
   ·go_wp2
    go_ret
    exact ⟨ret_int (by rw [← HV.out,HP.out,if_pos he]),by exact bel_⟩
   ·go_wp2
    go_roundw
    case rel=>exact ⟨k+1,by omega,by go_num,by rw [← HV.out,HP.out,if_neg he],by exact bel_⟩
    case measure=>exact ms_
  ·have hkn:Hid (k=x.pn):=by show _=_;omega
   go_wp2
   go_ret
   exact ⟨ret_int (by rw [← HV.out,List.drop_eq_nil_of_le (by rw [HL.out,hkn.out];exact Nat.le_refl _)];rfl),hB⟩
set_option maxHeartbeats 1000000 in
theorem r_leavesOf (pp:List Ppr) (x:Lsl) (n:Int) (w:World) (hn:x.pn≤9223372036854775807) (hd:Pps w w.heap.size x.pA x.pn pp) :
 Calls Tryz.prog 128 #[.agg #[.slice x.pA x.pn x.pc,.slice x.rA x.rn x.rc,.slice x.tA x.tn x.tc,.slice x.sA x.sn x.sc],.int .i64 n] w fun e w'=>e=.returned (.int .i64 (lvOf pp n))∧Below w.heap.size w w':=by
 have hlen:=hd.len
 have HD:=Lib.hid hd
 have HL:=Lib.hid hlen
 clear hd hlen
 go_enter Tryz.func128,Tryz.ntmps128
 go_wp2
 go_loopw [5] (fun i wr=>∃ k:Nat,k≤x.pn∧i=.int .i64 k∧lvOf (pp.drop k) n=lvOf pp n∧wr=w.alloc (.cells #[.slice x.pA x.pn x.pc,.slice x.rA x.rn x.rc,.slice x.tA x.tn x.tc,.slice x.sA x.sn x.sc] 27)) (fun i _=>x.pn - (intOf i).toNat)
 case atStart=>exact ⟨0,by omega,rfl,rfl,rfl⟩
 case round =>
  obtain ⟨k,hk,rfl,hv,rfl⟩:=hrel
  have HV:=Lib.hid hv
  clear hv
  by_cases hlt:k<x.pn
  ·obtain ⟨b,o,p,hA,hb,hp,h0,h1⟩:=HD.out.at_ hlt
   have HP:=Lib.hid (lvOf_at n hp)
   clear hp
   by_cases he:p.id=n
   ·go_wp2
    go_ret
    exact ⟨ret_int (by rw [← HV.out,HP.out,if_pos he]),by exact bel_⟩
   ·go_wp2
    go_roundw
    case rel=>exact ⟨k+1,by omega,by go_num,by rw [← HV.out,HP.out,if_neg he],by rw [hA]⟩
    case measure=>exact ms_
  ·have hkn:Hid (k=x.pn):=by show _=_;omega
   go_wp2
   go_ret
   exact ⟨ret_int (by rw [← HV.out,List.drop_eq_nil_of_le (by rw [HL.out,hkn.out];exact Nat.le_refl _)];rfl),by exact bel_⟩
set_option maxHeartbeats 1000000 in
theorem p_has (pp:List Ppr) (x:Lsl) (a b:Int) (w:World) (hn:x.pn≤9223372036854775807) (hd:Pps w w.heap.size x.pA x.pn pp) :
 Calls Tryz.prog 55 #[.agg #[.slice x.pA x.pn x.pc,.slice x.rA x.rn x.rc,.slice x.tA x.tn x.tc,.slice x.sA x.sn x.sc],.agg #[.int .i64 a,.int .i64 b]] w fun e w'=>e=.returned (.bool (folB pp a b))∧Below w.heap.size w w':=by
 have HD:=Lib.hid hd
 clear hd
 go_enter Tryz.func55,Tryz.ntmps55
 go_wp2_with fail
 have HD1:Hid (Pps ((w.alloc (.cells #[.slice x.pA x.pn x.pc,.slice x.rA x.rn x.rc,.slice x.tA x.tn x.tc,.slice x.sA x.sn x.sc] 27)).alloc (.cells #[.int .i64 a,.int .i64 b] 60)) ((w.alloc (.cells #[.slice x.pA x.pn x.pc,.slice x.rA x.rn x.rc,.slice x.tA x.tn x.tc,.slice x.sA x.sn x.sc] 27)).alloc (.cells #[.int .i64 a,.int .i64 b] 60)).heap.size x.pA x.pn pp):=by
  show Sq _ _ _ _ _ _ _
  exact HD.out.now abP (by exact bel_)
 (refine rg_ ?_;(repeat (go_big_quiet_step ((first | (go_at_call_of 125 (Value.agg #[.slice x.pA x.pn x.pc,.slice x.rA x.rn x.rc,.slice x.tA x.tn x.tc,.slice x.sA x.sn x.sc]);exact Calls.grow_all (fun g=>p_leaves pp x a g.1 hn (HD1.out.now abP g.2))) | (go_at_call 72;exact Calls.grow_same (p_within _ _ _ _))))));refine qn_ fun w1 hb1 hc1 hf1=>?_)
 go_wp2_with fail
 go_ret
 exact ⟨rfl,Below.then_ (W:=(w.alloc (.cells #[.slice x.pA x.pn x.pc,.slice x.rA x.rn x.rc,.slice x.tA x.tn x.tc,.slice x.sA x.sn x.sc] 27)).alloc (.cells #[.int .i64 a,.int .i64 b] 60)) (by exact bel_) hb1⟩
set_option maxHeartbeats 1000000 in
theorem r_isFolio (pp:List Ppr) (x:Lsl) (a b:Int) (w:World) (hn:x.pn≤9223372036854775807) (hd:Pps w w.heap.size x.pA x.pn pp) :
 Calls Tryz.prog 64 #[.agg #[.slice x.pA x.pn x.pc,.slice x.rA x.rn x.rc,.slice x.tA x.tn x.tc,.slice x.sA x.sn x.sc],.agg #[.int .i64 a,.int .i64 b]] w fun e w'=>e=.returned (.bool (folB pp a b))∧Below w.heap.size w w':=by
 have HD:=Lib.hid hd
 clear hd
 go_enter Tryz.func64,Tryz.ntmps64
 go_wp2_with fail
 have HD1:Hid (Pps ((w.alloc (.cells #[.slice x.pA x.pn x.pc,.slice x.rA x.rn x.rc,.slice x.tA x.tn x.tc,.slice x.sA x.sn x.sc] 27)).alloc (.cells #[.int .i64 a,.int .i64 b] 60)) ((w.alloc (.cells #[.slice x.pA x.pn x.pc,.slice x.rA x.rn x.rc,.slice x.tA x.tn x.tc,.slice x.sA x.sn x.sc] 27)).alloc (.cells #[.int .i64 a,.int .i64 b] 60)).heap.size x.pA x.pn pp):=by
  show Sq _ _ _ _ _ _ _
  exact HD.out.now abP (by exact bel_)
 (refine rg_ ?_;(repeat (go_big_quiet_step ((first | (go_at_call_of 128 (Value.agg #[.slice x.pA x.pn x.pc,.slice x.rA x.rn x.rc,.slice x.tA x.tn x.tc,.slice x.sA x.sn x.sc]);exact Calls.grow_all (fun g=>r_leavesOf pp x a g.1 hn (HD1.out.now abP g.2))) | (go_at_call 73;exact Calls.grow_same (r_In2 _ _ _ _))))));refine qn_ fun w1 hb1 hc1 hf1=>?_)
 go_wp2_with fail
 go_ret
 exact ⟨rfl,Below.then_ (W:=(w.alloc (.cells #[.slice x.pA x.pn x.pc,.slice x.rA x.rn x.rc,.slice x.tA x.tn x.tc,.slice x.sA x.sn x.sc] 27)).alloc (.cells #[.int .i64 a,.int .i64 b] 60)) (by exact bel_) hb1⟩
theorem p_folioOf (s:Sgt) (w:World):Calls Tryz.prog 56 #[.agg #[.int .i64 s.src,.int .i64 s.per,.int .i64 s.pap,.int .i64 s.leaf,.int .i64 s.day,.int .i64 s.kn,.int .i64 s.un]] w fun e w'=>e=.returned (.agg #[.int .i64 s.pap,.int .i64 s.leaf])∧Below w.heap.size w w':=by
 go_enter Tryz.func56,Tryz.ntmps56
 go_wp2
 refine bodyPost_ret (v:=.agg #[.int .i64 s.pap,.int .i64 s.leaf]) (by simp [results,Tryz.f56,go_sem]) rfl ⟨rfl,by exact bel_⟩
end Go.Proofs.YtoiompoapikkbaaGreat
/- Layer 2: the leaves of which receipts and sights tell. -/
namespace Go.Proofs.YtoiompoapikkbaaGreat
open Go.RowKit
theorem infoFol:(Tryz.prog.info? 60).map (fun i=>(i.zero,i.size,i.bytes))=some (some (.agg #[.int .i64 0,.int .i64 0]),2,16):=by kernel_rfl
def folCells (fs:List (Int × Int)):List Value:=fs.flatMap fun f=>[.int .i64 f.1,.int .i64 f.2]
def rcFol (r:Rcp):List (Int × Int):=r.lv.map fun x=>(r.pap,x)
def namL (l:Led):List (Int × Int):=l.rc.flatMap rcFol ++ l.sg.map fun s=>(s.pap,s.leaf)
def RetF (fs:List (Int × Int)) (w:World) (e:Ending) (w':World):Prop:=∃ v,e=.returned v∧Below w.heap.size w w'∧w'.ownsRow w.heap.size 60 2 v fs.length (folCells fs)
theorem own_ne {W:World} {base size n b:Nat} {e T:TypeId} {v:Value} {xs:List Value} {cs:Array Value} (h:W.ownsRow base e size v n xs) (hb:W.heap[b]?=some (.cells cs T (0,0))) (hT:T≠e):some b≠v.ownBlock:=by
 rcases h.2 with ⟨rfl,_⟩ | ⟨g,cap,cur,rfl,_,hg,_⟩
 ·simp [Value.ownBlock]
 ·intro he
  simp only [Value.ownBlock,Option.some.injEq] at he
  subst he
  rw [hg] at hb
  simp only [Option.some.injEq,Obj.cells.injEq] at hb
  exact hT hb.2.1.symm
theorem box_kept {W W0 w':World} {base size n b:Nat} {e T:TypeId} {v:Value} {xs:List Value} {cs:Array Value} (hb:W.heap[b]?=some (.cells cs T (0,0))) (h:W0.ownsRow base e size v n xs) (hb0:W0.heap[b]?=some (.cells cs T (0,0))) (hT:T≠e) (hg:W.grownBy w' v.ownBlock):w'.heap[b]?=some (.cells cs T (0,0)) :=
 (hg.block b (Array.getElem?_eq_some_iff.1 hb).1 (own_ne h hb0 hT)).trans hb
theorem OwnS.below {w W W0 w2:World} {B size n:Nat} {e:TypeId} {v:Value} {xs:List Value} (hB:Below B w W) (ho:W0.ownsRow B e size v n xs) (hs:B≤W.heap.size) (hg:W.grownBy w2 v.ownBlock):Below B w w2 :=
 hB.grown hg hs fun k ek=>own_base ho ek
theorem own_ex {W W':World} {base size n:Nat} {e:TypeId} {v:Value} {xs:List Value} (h:W.ownsRow base e size v n xs) (hb:Below W.heap.size W W'):W'.ownsRow base e size v n xs:=by
 refine ⟨h.1,h.2.imp id ?_⟩
 rintro ⟨g,cap,cur,hv,hB,hg,r⟩
 exact ⟨g,cap,cur,hv,hB,(hb.block g (Array.getElem?_eq_some_iff.1 hg).1).trans hg,r⟩
theorem take_fol {l:List Rcp} {k:Nat} {r:Rcp} (h:l[k]?=some r):(l.take (k+1)).flatMap rcFol=(l.take k).flatMap rcFol ++ rcFol r:=by rw [take_snoc_some h];simp
theorem fol_len {l:List Rcp} (h:∀ r∈l,r.lv.length≤30) (k:Nat):((l.take k).flatMap rcFol).length≤30*k:=by
 induction k generalizing l with
 | zero=>simp
 | succ k ih =>
   cases l with
   | nil=>simp
   | cons r l =>
     have h1:=ih (l:=l) fun r hr=>h r (List.mem_cons_of_mem _ hr)
     have h2:=h r (by simp)
     simp only [List.take_succ_cons,List.flatMap_cons,List.length_append,rcFol,List.length_map] at h1 ⊢
     omega
set_option maxRecDepth 10000 in
set_option maxHeartbeats 8000000 in
theorem p_named (l:Led) (x:Lsl) (w:World) (hr:x.rn≤60) (hs:x.sn≤60) (hl30:∀ r∈l.rc,r.lv.length≤30) (hd:LedIn w w.heap.size x l) :
 Calls Tryz.prog 95 #[.agg #[.slice x.pA x.pn x.pc,.slice x.rA x.rn x.rc,.slice x.tA x.tn x.tc,.slice x.sA x.sn x.sc]] w (RetF (namL l) w):=by
 obtain ⟨i0,hi,hz0,hz1,hz2⟩:=info_parts infoFol
 have hl1:=hd.r.len
 have hl3:=hd.s.len
 have HD:=Lib.hid (hd.now ((Below.refl w.heap.size w).alloc (Nat.le_refl _) (.cells #[.slice x.pA x.pn x.pc,.slice x.rA x.rn x.rc,.slice x.tA x.tn x.tc,.slice x.sA x.sn x.sc] 27)))
 have HL1:=Lib.hid hl1
 have HL3:=Lib.hid hl3
 have H30:=Lib.hid hl30
 clear hl1 hl3 hd hl30
 go_enter Tryz.func95,Tryz.ntmps95
 go_wp2
 go_loopw [3,13] (fun v i wr=>∃ k:Nat,k≤x.rn∧i=.int .i64 k∧wr.ownsRow (w.heap.size+1) 60 2 v ((l.rc.take k).flatMap rcFol).length (folCells ((l.rc.take k).flatMap rcFol))∧Below (w.heap.size+1) (w.alloc (.cells #[.slice x.pA x.pn x.pc,.slice x.rA x.rn x.rc,.slice x.tA x.tn x.tc,.slice x.sA x.sn x.sc] 27)) wr) (fun _ i _=>x.rn - (intOf i).toNat)
 case atStart=>exact ⟨0,by omega,rfl,World.ownsRow_nil _ _ _ _,by exact bel_⟩
 case round =>
  obtain ⟨k,hk,rfl,hown,hB⟩:=hrel
  have hs0:w.heap.size+1≤wr.heap.size:=by have h:=hB.size;simp at h;omega
  by_cases hlt:k<x.rn
  ·obtain ⟨b,o,e,hA,hb,he,hq⟩:=(Sq.ext HD.out.r abR (w':=wr) (by simpa using hB) (Nat.le_refl _)).at_ hlt
   obtain ⟨A1,n1,c1,⟨a0,a1,a2,a3,a4,a5,a6⟩,hi1,hc1,hm1⟩:=hq
   have hbr:b<wr.heap.size:=by simp at hb;omega
   have hn1:n1≤30:=by rw [← hi1.len];exact H30.out e (List.mem_of_getElem? he)
   have hfl:=fol_len H30.out k
   have HE:=Lib.hid (take_fol he)
   have HI:=Lib.hid hi1
   have HIL:=Lib.hid hi1.len
   obtain ⟨L0,hL0⟩:∃ L0,(l.rc.take k).flatMap rcFol=L0:=⟨_,rfl⟩
   rw [hL0] at hown hfl HE
   obtain ⟨wo,hwo⟩:∃ wo,wo=wr:=⟨_,rfl⟩
   subst hwo
   have HB:=Lib.hid hB
   have HO:=Lib.hid hown
   clear he hi1 hB hL0 hown
   go_wp2
   have HAA:=Lib.hid hA
   clear hA
   go_loopw [3,20] (fun v i wq=>∃ j:Nat,j≤n1∧i=.int .i64 j∧wq.ownsRow (w.heap.size+1) 60 2 v (L0.length+j) (folCells (L0 ++ (e.lv.take j).map fun y=>(e.pap,y)))∧Below (w.heap.size+1) wo wq∧wq.heap[wo.heap.size]?=some (.cells #[.int .i64 e.src,.int .i64 e.bor,.int .i64 e.pap,.slice A1 n1 c1,.int .i64 e.day,.int .i64 e.kn,.int .i64 e.un] 32 (0,0))) (fun _ i _=>n1 - (intOf i).toNat)
   case atStart=>exact ⟨0,by omega,rfl,by simpa using HO.out.alloc _,by exact bel_,by simpa using World.alloc_heap_new wo _⟩
   case round =>
    obtain ⟨j,hj,rfl,hown,hQ,hbox⟩:=hrel
    have hBQ:Below (w.heap.size+1) (w.alloc (.cells #[.slice x.pA x.pn x.pc,.slice x.rA x.rn x.rc,.slice x.tA x.tn x.tc,.slice x.sA x.sn x.sc] 27)) wr:=HB.out.trans hQ
    have hbl:wo.heap.size<wr.heap.size:=(Array.getElem?_eq_some_iff.1 hbox).1
    have x2:wr.cell? ⟨wo.heap.size,2,none⟩=some (.int .i64 e.pap):=by simp [World.cell?,hbox]
    by_cases hjn:j<n1
    ·have HI2:Is wr (w.alloc (.cells #[.slice x.pA x.pn x.pc,.slice x.rA x.rn x.rc,.slice x.tA x.tn x.tc,.slice x.sA x.sn x.sc] 27)).heap.size A1 n1 e.lv:=Rd.keep HI.out (w':=wr) fun b' o' hb'=>hQ.cell (p:=⟨b',o',none⟩) (by simpa using hb')
     obtain ⟨b1,o1,y,rfl,hb1,hy,hc0⟩:=HI2.at_ hjn
     clear HI2
     have HY:=Lib.hid (take_snoc_some hy)
     have HOI:=Lib.hid hown
     have HQ:=Lib.hid hQ
     have HBX:=Lib.hid hbox
     clear hy hQ hbox
     go_wp2_with (at_builtin;refine wpList_append_own _ rfl (.tmp 24) (.tmp 29) 71 rfl (w.heap.size+1) 60 i0 _ 2 16 Tryz.underlying71 hi hz0 hz1 hz2 rfl (by decide) _ _ _ rfl (hown.alloc _) ⟨wr.heap.size,0,none⟩ 1 1 [.int .i64 e.pap,.int .i64 y] rfl rfl ?c1 ?c2 ?c3 ?c4 ?c5 ?_;rotate_left 5;intro v' w2 hown2 hgrow2 _)
     case c1=>intro j u hj;match j,hj with
      | 0,hj=>simp at hj;subst hj;simp [Addr.add]
      | 1,hj=>simp at hj;subst hj;simp [Addr.add]
     case c2=>simp [Value.oneCell']
     case c3=>unfold maxLen;omega
     case c4=>omega
     case c5=>simp;omega
     go_roundw
     case rel =>
      refine ⟨j+1,by omega,by go_num,?_,OwnS.below (by have:=HQ.out;exact bel_) HOI.out (by simp;omega) hgrow2,?_⟩
      ·rw [HY.out]
       have e1:folCells (L0 ++ (e.lv.take j ++ [y]).map fun y=>(e.pap,y))=folCells (L0 ++ (e.lv.take j).map fun y=>(e.pap,y)) ++ [.int .i64 e.pap,.int .i64 y]:=by simp [folCells]
       rw [e1]
       exact hown2
      ·exact box_kept (W:=wr.alloc (.cells #[.int .i64 e.pap,.int .i64 y] 60)) ((Below.heap_alloc _ _ _ hbl).trans HBX.out) HOI.out HBX.out (by decide) hgrow2
     case measure=>exact ms_
    ·have hjk:Hid (j=n1):=by show _=_;omega
     have HOI:=Lib.hid hown
     have HBQ:=Lib.hid hBQ
     clear hown hBQ hbox hQ
     go_wp2
     have hA:=HAA.out
     go_roundw
     case rel =>
      refine ⟨k+1,by omega,by go_num,?_,HBQ.out⟩
      rw [HE.out]
      have h:=HOI.out
      rw [hjk.out,List.take_of_length_le (by rw [HIL.out];exact Nat.le_refl _)] at h
      rw [List.length_append,show (rcFol e).length=n1 from by rw [rcFol,List.length_map,HIL.out]]
      exact h
     case measure=>exact ms_
  ·have hkn:Hid (k=x.rn):=by show _=_;omega
   obtain ⟨hcw,hfw⟩:=bcell (W:=(w.alloc (.cells #[.slice x.pA x.pn x.pc,.slice x.rA x.rn x.rc,.slice x.tA x.tn x.tc,.slice x.sA x.sn x.sc] 27))) (by simpa using hB)
   have HBW:=Lib.hid hB
   have HOW:=hown
   rw [hkn.out,List.take_of_length_le (by rw [HL1.out];exact Nat.le_refl _)] at HOW
   have hlen1:(l.rc.flatMap rcFol).length≤1800:=by
    have h:=fol_len H30.out x.rn
    rw [List.take_of_length_le (by rw [HL1.out];exact Nat.le_refl _)] at h
    omega
   obtain ⟨L1,hL1⟩:∃ L1,l.rc.flatMap rcFol=L1:=⟨_,rfl⟩
   rw [hL1] at HOW hlen1
   have HOW:=Lib.hid HOW
   have HL:=Lib.hid hL1
   clear hB hown hL1
   go_wp2
   go_loopw [3,36] (fun v i wr=>∃ k:Nat,k≤x.sn∧i=.int .i64 k∧wr.ownsRow (w.heap.size+1) 60 2 v (L1.length+k) (folCells (L1 ++ (l.sg.take k).map fun s=>(s.pap,s.leaf)))∧Below (w.heap.size+1) (w.alloc (.cells #[.slice x.pA x.pn x.pc,.slice x.rA x.rn x.rc,.slice x.tA x.tn x.tc,.slice x.sA x.sn x.sc] 27)) wr) (fun _ i _=>x.sn - (intOf i).toNat)
   case atStart=>exact ⟨0,by omega,rfl,by simpa using HOW.out,HBW.out⟩
   case round =>
    obtain ⟨k3,hk3,rfl,hown,hB⟩:=hrel
    have hs0:w.heap.size+1≤wr.heap.size:=by have h:=hB.size;simp at h;omega
    by_cases hlt3:k3<x.sn
    ·obtain ⟨b,o,e,hA,hb,he,a0,a1,a2,a3,a4,a5,a6⟩:=(Sq.ext HD.out.s abS (w':=wr) (by simpa using hB) (Nat.le_refl _)).at_ hlt3
     have hbr:b<wr.heap.size:=by simp at hb;omega
     have HE:=Lib.hid (take_snoc_some he)
     have HO:=Lib.hid hown
     have HB:=Lib.hid hB
     clear he hB hown
     go_wp2_with (go_at_call 56;refine (p_folioOf e _).mono ?_;rintro e' w4 ⟨rfl,hb4⟩;refine Hid.out ?_)
     refine Lib.hid ?_
     have hQ4:Below wr.heap.size wr w4:=Below.then_ (W:=wr.alloc (.cells #[.int .i64 e.src,.int .i64 e.per,.int .i64 e.pap,.int .i64 e.leaf,.int .i64 e.day,.int .i64 e.kn,.int .i64 e.un] 38)) (by exact bel_) hb4
     have hs4:=hQ4.size
     have hown4:=own_ex HO.out hQ4
     have HO4:=Lib.hid hown4
     have HQ4:=Lib.hid hQ4
     clear hb4 hQ4
     go_wp2_with (at_builtin;refine wpList_append_own _ rfl (.tmp 40) (.tmp 43) 71 rfl (w.heap.size+1) 60 i0 _ 2 16 Tryz.underlying71 hi hz0 hz1 hz2 rfl (by decide) _ _ _ rfl (hown4.alloc _) ⟨w4.heap.size,0,none⟩ 1 1 [.int .i64 e.pap,.int .i64 e.leaf] rfl rfl ?c1 ?c2 ?c3 ?c4 ?c5 ?_;rotate_left 5;intro v' w2 hown2 hgrow2 _)
     case c1=>intro j u hj;match j,hj with
      | 0,hj=>simp at hj;subst hj;simp [Addr.add]
      | 1,hj=>simp at hj;subst hj;simp [Addr.add]
     case c2=>simp [Value.oneCell']
     case c3=>unfold maxLen;omega
     case c4=>omega
     case c5=>simp;omega
     go_roundw
     case rel =>
      (repeat apply Exists.intro)
      refine ⟨⟨k3+1,by omega,by go_num,?_,OwnS.below ((HB.out.trans (HQ4.out.mono hs0)).alloc (by omega) _) HO4.out (by simp;omega) hgrow2⟩,?_⟩
      ·rw [HE.out]
       have e1:folCells (L1 ++ (l.sg.take k3 ++ [e]).map fun s=>(s.pap,s.leaf))=folCells (L1 ++ (l.sg.take k3).map fun s=>(s.pap,s.leaf)) ++ [.int .i64 e.pap,.int .i64 e.leaf]:=by simp [folCells]
       rw [e1]
       exact hown2
      ·first | rfl | (rw [hA] <;> rfl) | rw [hA]
     case measure=>exact ms_
    ·have hk3n:Hid (k3=x.sn):=by show _=_;omega
     have HO:=Lib.hid hown
     have HB:=Lib.hid hB
     clear hown hB
     go_wp2
     go_ret
     refine ⟨_,rfl,(show Below w.heap.size w (w.alloc (.cells #[.slice x.pA x.pn x.pc,.slice x.rA x.rn x.rc,.slice x.tA x.tn x.tc,.slice x.sA x.sn x.sc] 27)) by exact bel_).trans (HB.out.mono (Nat.le_succ _)),?_⟩
     have h:=HO.out
     rw [hk3n.out,List.take_of_length_le (by rw [HL3.out];exact Nat.le_refl _)] at h
     rw [namL,HL.out,List.length_append,List.length_map,HL3.out]
     exact own_dn h (Nat.le_succ _)
end Go.Proofs.YtoiompoapikkbaaGreat
