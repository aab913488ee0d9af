/- Layer 2 of the texts that LoanMoves takes: Mbxq. -/
import Derived.Test.YtmcmbicapdcfmaaGreatMbqq
import Derived.Test.YtmcmbicapdcfmaaGreatMbsq
set_option linter.unusedVariables false
set_option linter.unusedSimpArgs false
set_option maxHeartbeats 16000000
namespace Go.Proofs.YtmcmbicapdcfmaaGreat
open Go.RowKit Go.Maps
theorem mod_mid {a m:Int} (hm:0<m):a.tmod m+m=a % m+m∨a.tmod m+m=a % m:=by
 rcases Int.lt_or_le a 0 with h | h
 ·have e1:=Int.tmod_eq_emod (a:=a) (b:=m)
  by_cases hd:m ∣ a
  ·left;rw [e1];simp [hd]
  ·right;rw [e1];simp [hd,Int.not_le.2 h];omega
 ·left;rw [Int.tmod_eq_emod_of_nonneg h]
theorem mod_val {a m:Int} (hm:0<m) (hm2:m≤1000000):(wrap64 (a.tmod m+m)).tmod m=a % m:=by
 have h0:=Int.emod_nonneg a (Int.ne_of_gt hm)
 have h2:=Int.emod_lt_of_pos a hm
 have hw:wrap64 (a.tmod m+m)=a.tmod m+m:=IntWalk.wrap64_in _ (by rcases mod_mid (a:=a) hm with h1 | h1 <;> rw [h1] <;> constructor <;> omega)
 rw [hw]
 rcases mod_mid (a:=a) hm with h1 | h1
 ·rw [h1,Int.tmod_eq_emod_of_nonneg (by omega),Int.add_emod_right,Int.emod_emod]
 ·rw [h1,Int.tmod_eq_emod_of_nonneg h0,Int.emod_emod]
theorem r_Mod2 (a m:Int) (w:World) (hm:0<m) (hm2:m≤1000000) :
 Calls Tryz.prog 11 #[.int .i64 a,.int .i64 m] w fun e w'=>e=.returned (.int .i64 (a % m))∧w=w':=by
 have hz:¬ m=0:=by omega
 go_enter Tryz.func11,Tryz.ntmps11
 go_wp2
 go_ret
 exact ⟨ret_int (mod_val hm hm2),rfl⟩
theorem r_Mod_v (a m v:Int) (w:World) (hm:0<m) (hm2:m≤1000000) (h:a % m=v) :
 Calls Tryz.prog 11 #[.int .i64 a,.int .i64 m] w fun e w'=>e=.returned (.int .i64 v)∧w=w':=h ▸ r_Mod2 a m w hm hm2
def RetBits (m:Int) (w:World) (e:Ending) (w':World):Prop:=∃ A n c xs,e=.returned (.slice A n c)∧Below w.heap.size w w'∧w'.ownsRow w.heap.size 3 1 (.slice A n c) n (intL xs)∧n≤c∧c≤maxLen∧BitsOk m xs
theorem up_le {m:Int}:∀ {xs:List Int},xs.Pairwise (·<·)→(∀ x∈xs,1≤x∧x<m)→(xs.length:Int)≤m - 1∨xs=[]:=by
 intro xs hp h
 have g:∀ (i:Nat) (hi:i<xs.length),(i:Int)+1≤xs[i]:=by
  intro i
  induction i with
  | zero=>intro hi;have:=(h _ (List.getElem_mem hi)).1;omega
  | succ i ih =>
    intro hi
    have h4:=ih (by omega)
    have h5:=List.pairwise_iff_getElem.1 hp i (i+1) (by omega) hi (by omega)
    omega
 rcases Nat.eq_zero_or_pos xs.length with h0 | h0
 ·exact .inr (List.eq_nil_of_length_eq_zero h0)
 ·left
  have h4:=g (xs.length - 1) (by omega)
  have h5:=(h _ (List.getElem_mem (show xs.length - 1<xs.length by omega))).2
  omega
theorem bits_snoc {xs:List Int} {i:Int} (h:xs.Pairwise (·<·)) (h2:∀ x∈xs,1≤x∧x<i) (hi:1≤i):(xs ++ [i]).Pairwise (·<·)∧∀ x∈xs ++ [i],1≤x∧x<i+1:=by
 refine ⟨List.pairwise_append.2 ⟨h,by simp,fun a ha b hb=>?_⟩,fun x hx=>?_⟩
 ·rw [List.mem_singleton.1 hb];exact (h2 a ha).2
 ·rcases List.mem_append.1 hx with hx | hx
  ·have:=h2 x hx;omega
  ·rw [List.mem_singleton.1 hx];omega
set_option maxRecDepth 10000 in
theorem r_bits (n m:Int) (w:World) (hm:1≤m∧m≤4) :
 Calls Tryz.prog 77 #[.int .i64 n,.int .i64 m] w (RetBits m w):=by
 obtain ⟨i0,hi,hz0,hz1,hz2⟩:=info_parts infoI2
 obtain ⟨hm1,hm4⟩:=hm
 go_enter Tryz.func77,Tryz.ntmps77
 go_wp2
 go_loopw [5,6] (fun v i wr=>∃ (k:Nat) (xs:List Int),1≤k∧(k:Int)≤m+1∧i=.int .i64 (k:Int)∧wr.ownsRow w.heap.size 3 1 v xs.length (intL xs)∧Below w.heap.size w wr∧xs.length≤4∧xs.Pairwise (·<·)∧∀ x∈xs,1≤x∧x<(k:Int)) (fun _ i _=>(m+1).toNat - (intOf i).toNat)
 case atStart=>exact ⟨1,[],by omega,by omega,rfl,World.ownsRow_nil _ _ _ _,by exact bel_,by simp,List.Pairwise.nil,by simp⟩
 case round =>
  obtain ⟨k,xs,hk1,hk2,rfl,hown,hB,hl4,hup,hlo⟩:=hrel
  have hs0:=hB.size
  by_cases hlt:(k:Int)≤m
  ·have hk4:k=1∨k=2∨k=3∨k=4:=by omega
   have HO:=hd_ hown
   have HB:=hd_ hB
   have HU:=hd_ hup
   have HL:=hd_ hlo
   clear hown hB hup hlo
   rcases hk4 with rfl | rfl | rfl | rfl
   ·cases hbt:(bits BinOp.and IntKind.i64 n 2 != 0) with
    | true =>
      have hg:=HO.out
      go_wp2_with (at_builtin;refine wpList_append_own _ rfl (.tmp 17) (.tmp 19) 33 rfl (w.heap.size) 3 i0 _ 1 8 Tryz.underlying33 hi hz0 hz1 hz2 rfl (by decide) _ _ _ rfl (hg.alloc _) ⟨wr.heap.size,0,none⟩ 1 1 [.int .i64 1] rfl rfl ?c1 ?c2 ?c3 ?c4 ?c5 ?_;rotate_left 5;intro v' w2 hown2 hgrow2 _)
      case c1=>intro j u hj;match j,hj with | 0,hj=>simp at hj;subst hj;simp [Addr.add]
      case c2=>simp [Value.oneCell']
      case c3=>unfold maxLen;omega
      case c4=>omega
      case c5=>simp;omega
      go_roundw
      case rel =>
       have hsn:=bits_snoc (i:=1) HU.out HL.out (by omega)
       refine ⟨2,xs ++ [1],by omega,by omega,rfl,?_,OwnB.below (by have:=HB.out;exact bel_) HO.out (by simp;omega) hgrow2,?_,hsn.1,hsn.2⟩
       ·rw [List.length_append,List.length_singleton];simpa [intL] using hown2
       ·have hq:=HL.out;have hrl:=up_le (m:=1) HU.out hq;rcases hrl with hrl | rfl <;> simp <;> omega
      case measure=>exact ms_
    | false =>
      go_wp2_with fail
      go_roundw
      case rel=>exact ⟨2,xs,by omega,by omega,rfl,HO.out,by have:=HB.out;exact bel_,hl4,HU.out,fun x hx=>by have:=HL.out x hx;omega⟩
      case measure=>exact ms_
   ·cases hbt:(bits BinOp.and IntKind.i64 n 4 != 0) with
    | true =>
      have hg:=HO.out
      go_wp2_with (at_builtin;refine wpList_append_own _ rfl (.tmp 17) (.tmp 19) 33 rfl (w.heap.size) 3 i0 _ 1 8 Tryz.underlying33 hi hz0 hz1 hz2 rfl (by decide) _ _ _ rfl (hg.alloc _) ⟨wr.heap.size,0,none⟩ 1 1 [.int .i64 2] rfl rfl ?c1 ?c2 ?c3 ?c4 ?c5 ?_;rotate_left 5;intro v' w2 hown2 hgrow2 _)
      case c1=>intro j u hj;match j,hj with | 0,hj=>simp at hj;subst hj;simp [Addr.add]
      case c2=>simp [Value.oneCell']
      case c3=>unfold maxLen;omega
      case c4=>omega
      case c5=>simp;omega
      go_roundw
      case rel =>
       have hsn:=bits_snoc (i:=2) HU.out HL.out (by omega)
       refine ⟨3,xs ++ [2],by omega,by omega,rfl,?_,OwnB.below (by have:=HB.out;exact bel_) HO.out (by simp;omega) hgrow2,?_,hsn.1,hsn.2⟩
       ·rw [List.length_append,List.length_singleton];simpa [intL] using hown2
       ·have hq:=HL.out;have hrl:=up_le (m:=2) HU.out hq;rcases hrl with hrl | rfl <;> simp <;> omega
      case measure=>exact ms_
    | false =>
      go_wp2_with fail
      go_roundw
      case rel=>exact ⟨3,xs,by omega,by omega,rfl,HO.out,by have:=HB.out;exact bel_,hl4,HU.out,fun x hx=>by have:=HL.out x hx;omega⟩
      case measure=>exact ms_
   ·cases hbt:(bits BinOp.and IntKind.i64 n 8 != 0) with
    | true =>
      have hg:=HO.out
      go_wp2_with (at_builtin;refine wpList_append_own _ rfl (.tmp 17) (.tmp 19) 33 rfl (w.heap.size) 3 i0 _ 1 8 Tryz.underlying33 hi hz0 hz1 hz2 rfl (by decide) _ _ _ rfl (hg.alloc _) ⟨wr.heap.size,0,none⟩ 1 1 [.int .i64 3] rfl rfl ?c1 ?c2 ?c3 ?c4 ?c5 ?_;rotate_left 5;intro v' w2 hown2 hgrow2 _)
      case c1=>intro j u hj;match j,hj with | 0,hj=>simp at hj;subst hj;simp [Addr.add]
      case c2=>simp [Value.oneCell']
      case c3=>unfold maxLen;omega
      case c4=>omega
      case c5=>simp;omega
      go_roundw
      case rel =>
       have hsn:=bits_snoc (i:=3) HU.out HL.out (by omega)
       refine ⟨4,xs ++ [3],by omega,by omega,rfl,?_,OwnB.below (by have:=HB.out;exact bel_) HO.out (by simp;omega) hgrow2,?_,hsn.1,hsn.2⟩
       ·rw [List.length_append,List.length_singleton];simpa [intL] using hown2
       ·have hq:=HL.out;have hrl:=up_le (m:=3) HU.out hq;rcases hrl with hrl | rfl <;> simp <;> omega
      case measure=>exact ms_
    | false =>
      go_wp2_with fail
      go_roundw
      case rel=>exact ⟨4,xs,by omega,by omega,rfl,HO.out,by have:=HB.out;exact bel_,hl4,HU.out,fun x hx=>by have:=HL.out x hx;omega⟩
      case measure=>exact ms_
   ·cases hbt:(bits BinOp.and IntKind.i64 n 16 != 0) with
    | true =>
      have hg:=HO.out
      go_wp2_with (at_builtin;refine wpList_append_own _ rfl (.tmp 17) (.tmp 19) 33 rfl (w.heap.size) 3 i0 _ 1 8 Tryz.underlying33 hi hz0 hz1 hz2 rfl (by decide) _ _ _ rfl (hg.alloc _) ⟨wr.heap.size,0,none⟩ 1 1 [.int .i64 4] rfl rfl ?c1 ?c2 ?c3 ?c4 ?c5 ?_;rotate_left 5;intro v' w2 hown2 hgrow2 _)
      case c1=>intro j u hj;match j,hj with | 0,hj=>simp at hj;subst hj;simp [Addr.add]
      case c2=>simp [Value.oneCell']
      case c3=>unfold maxLen;omega
      case c4=>omega
      case c5=>simp;omega
      go_roundw
      case rel =>
       have hsn:=bits_snoc (i:=4) HU.out HL.out (by omega)
       refine ⟨5,xs ++ [4],by omega,by omega,rfl,?_,OwnB.below (by have:=HB.out;exact bel_) HO.out (by simp;omega) hgrow2,?_,hsn.1,hsn.2⟩
       ·rw [List.length_append,List.length_singleton];simpa [intL] using hown2
       ·have hq:=HL.out;have hrl:=up_le (m:=4) HU.out hq;rcases hrl with hrl | rfl <;> simp <;> omega
      case measure=>exact ms_
    | false =>
      go_wp2_with fail
      go_roundw
      case rel=>exact ⟨5,xs,by omega,by omega,rfl,HO.out,by have:=HB.out;exact bel_,hl4,HU.out,fun x hx=>by have:=HL.out x hx;omega⟩
      case measure=>exact ms_
  ·have HO:=hd_ hown
   have HB:=hd_ hB
   have HU:=hd_ hup
   have HL:=hd_ hlo
   clear hown hB hup hlo
   cases xs with
   | nil =>
     obtain ⟨A,c,rfl,hc⟩:=own_slice HO.out
     have hl0:(([]:List Int).length:Int)=0:=rfl
     simp only [List.length_nil] at *
     go_wp2_with fail
     go_ret
     refine ⟨_,_,_,[1],rfl,by have:=HB.out;exact bel_,own_dn (own_new wr 3 #[.int .i64 1] 1 rfl (by decide)) hs0,by decide,by decide,by decide,by simp,fun x hx=>by rw [List.mem_singleton.1 hx];omega⟩
   | cons x xs =>
     obtain ⟨A,c,rfl,hc⟩:=own_slice HO.out
     have hne:(((x :: xs).length:Int) == 0)=false:=by simp;omega
     go_wp2_with fail
     go_ret
     refine ⟨A,_,c,x :: xs,rfl,HB.out,HO.out,hc.1,hc.2,by simp,HU.out,fun y hy=>by have:=HL.out y hy;omega⟩
set_option maxRecDepth 10000 in
theorem w_among (fs:List (Int × Int)) (pap leaf:Int) (v:Bool) (A:Option Addr) (n c:Nat) (w:World) (hn:n≤1000000) (hd:Sq QF 2 w w.heap.size A n fs) (hv:decide ((pap,leaf)∈fs)=v) :
 Calls Tryz.prog 19 #[.slice A n c,.agg #[.int .i64 pap,.int .i64 leaf]] w fun e w'=>e=.returned (.bool v)∧Below w.heap.size w w':=by
 have HX:=hd_ hd
 have HL:=hd_ hd.len
 have HV:=hd_ hv
 clear hd hv
 have HB0:=hd_ (BoxA.new w 48 #[.int .i64 pap,.int .i64 leaf])
 go_enter Tryz.func19,Tryz.ntmps19
 go_wp2
 go_loopw [5] (fun i wr=>∃ k:Nat,k≤n∧i=.int .i64 k∧(pap,leaf) ∉ fs.take k∧Below w.heap.size w wr∧BoxA wr w.heap.size 48 #[.int .i64 pap,.int .i64 leaf]) (fun i _=>n - (intOf i).toNat)
 case atStart=>exact ⟨0,by omega,rfl,by simp,by exact bel_,HB0.out⟩
 case round =>
  obtain ⟨k,hk,rfl,hpre,hB,hbx⟩:=hrel
  have HP:=hd_ hpre
  have HBX:=hd_ hbx
  have kF:=hbx.cell
  have zF:=hbx.lt
  clear hpre hbx
  have hs0:w.heap.size≤wr.heap.size:=hB.size
  by_cases hlt:k<n
  ·obtain ⟨b,o,⟨x,x2⟩,rfl,hb,hxk,hcx,hcx2⟩:=(Sq.ext HX.out abF hB lr_).at_ hlt
   have HXK:=hd_ hxk
   clear hxk
   have hbr:b<wr.heap.size:=by omega
   by_cases hxy:x=pap
   ·by_cases hxy2:x2=leaf
    ·have HIN:Hid ((pap,leaf)∈fs):=by show _∈_;rw [← hxy,← hxy2];exact List.mem_of_getElem? HXK.out
     subst hxy hxy2
     go_wp2_with fail
     (refine rg_ ?_;(repeat (go_big_quiet_step (fail)));refine qn_ fun w1 hb1 hc1 hf1=>?_)
     go_wp2_with fail
     go_ret
     refine ⟨ret_bool ?_,bt_ hB hb1⟩
     rw [← HV.out]
     simp [HIN.out]
    ·have HNE:Hid (¬ (pap,leaf)=(x,x2)):=by show ¬ _;intro e;injection e with e1 e2;exact hxy2 e2.symm
     have hq:(x2 == leaf)=false:=by simpa using hxy2
     go_wp2_with fail
     (refine rg_ ?_;(repeat (go_big_quiet_step (fail)));refine qn_ fun w1 hb1 hc1 hf1=>?_)
     go_wp2_with fail
     go_roundw
     case rel=>exact ⟨k+1,by omega,by go_num,by rw [take_snoc_some HXK.out];simp only [List.mem_append,List.mem_singleton,not_or];exact ⟨HP.out,HNE.out⟩,bt_ hB hb1,HBX.out.ext hb1⟩
     case measure=>exact ms_
   ·have HNE:Hid (¬ (pap,leaf)=(x,x2)):=by show ¬ _;intro e;injection e with e1 e2;exact hxy e1.symm
    have hq:(x == pap)=false:=by simpa using hxy
    go_wp2_with fail
    (refine rg_ ?_;(repeat (go_big_quiet_step (fail)));refine qn_ fun w1 hb1 hc1 hf1=>?_)
    go_wp2_with fail
    go_roundw
    case rel=>exact ⟨k+1,by omega,by go_num,by rw [take_snoc_some HXK.out];simp only [List.mem_append,List.mem_singleton,not_or];exact ⟨HP.out,HNE.out⟩,bt_ hB hb1,HBX.out.ext hb1⟩
    case measure=>exact ms_
  ·obtain rfl:n=k:=by omega
   go_wp2_with fail
   go_ret
   refine ⟨ret_bool ?_,hB⟩
   rw [← HV.out]
   symm
   apply decide_eq_false
   have h:=HP.out
   rwa [List.take_of_length_le (by rw [HL.out];exact lr_)] at h
def cntOf (l:Led) (src:Int):Int:=match l.rc.find? (fun r=>r.src == src) with
 | some r=>r.kn
 | none=>match l.rt.find? (fun t=>t.src == src) with
   | some t=>t.kn
   | none=>match l.sg.find? (fun s=>s.src == src) with
     | some s=>s.kn
     | none=>0
theorem find_step0 {α:Type} {p:α→Bool} {l:List α} {k:Nat} {x:α} (hx:l[k]?=some x) (h:(l.take k).find? p=none) (hp:p x=true):l.find? p=some x:=by
 rw [List.find?_eq_some_iff_getElem]
 obtain ⟨hk,he⟩:=List.getElem?_eq_some_iff.1 hx
 refine ⟨hp,k,hk,he,fun j hj=>?_⟩
 rw [List.find?_eq_none] at h
 have:=h l[j] (List.mem_take_iff_getElem.2 ⟨j,by omega,rfl⟩)
 simpa using this
theorem find_step1 {α:Type} {p:α→Bool} {l:List α} {k:Nat} {x:α} (hx:l[k]?=some x) (h:(l.take k).find? p=none) (hp:p x=false):(l.take (k+1)).find? p=none:=by
 rw [take_snoc_some hx,List.find?_append,h]
 simp [hp]
set_option maxRecDepth 10000 in
theorem w_counting (l:Led) (x:Lsl) (src v:Int) (w:World) (hf:LedOk l) (hd:LedIn w w.heap.size x l) (hv:cntOf l src=v) :
 Calls Tryz.prog 38 #[.agg #[.slice x.pA x.pn x.pc,.slice x.rA x.rn x.rc,.slice x.tA x.tn x.tc,.slice x.sA x.sn x.sc],.int .i64 src] w fun e w'=>e=.returned (.int .i64 v)∧Below w.heap.size w w':=by
 obtain ⟨pA,pn,pc,rA,rn,rc,tA,tn,tc,sA,sn,sc⟩:=x
 show Calls _ _ #[.agg #[.slice pA pn pc,.slice rA rn rc,.slice tA tn tc,.slice sA sn sc],_] _ _
 have HR:Hid (Rcs w w.heap.size rA rn l.rc):=by show Sq _ _ _ _ _ _ _;exact hd.r
 have HT:Hid (Rts w w.heap.size tA tn l.rt):=by show Sq _ _ _ _ _ _ _;exact hd.t
 have HS:Hid (Sgs w w.heap.size sA sn l.sg):=by show Sq _ _ _ _ _ _ _;exact hd.s
 have hrn:rn≤60:=by have:=HR.out.len;have:=hf.rn;omega
 have htn:tn≤60:=by have:=HT.out.len;have:=hf.tn;omega
 have hsn:sn≤60:=by have:=HS.out.len;have:=hf.sn;omega
 have HV:=hd_ hv
 have HB0:=hd_ (BoxA.new w 32 #[.slice pA pn pc,.slice rA rn rc,.slice tA tn tc,.slice sA sn sc])
 clear hd hf hv
 go_enter Tryz.func38,Tryz.ntmps38
 go_wp2
 go_loopw [5] (fun i wr=>∃ k:Nat,k≤rn∧i=.int .i64 k∧(l.rc.take k).find? (fun r=>r.src == src)=none∧Below w.heap.size w wr∧BoxA wr w.heap.size 32 #[.slice pA pn pc,.slice rA rn rc,.slice tA tn tc,.slice sA sn sc]) (fun i _=>rn - (intOf i).toNat)
 case atStart=>exact ⟨0,by omega,rfl,by simp,by exact bel_,HB0.out⟩
 case round =>
  obtain ⟨k,hk,rfl,hpre,hB,hbx⟩:=hrel
  have HPR:=hd_ hpre
  have HBX:=hd_ hbx
  have HBB:=hd_ hB
  have kF:=hbx.cell
  have zF:=hbx.lt
  clear hpre hbx
  have hs0:w.heap.size≤wr.heap.size:=hB.size
  by_cases hlt:k<rn
  ·obtain ⟨b,o,z,hA,hb,hz,A1,n1,c1,⟨g0,g1,g2,g3,g4,g5,g6⟩,-,-,-⟩:=(Sq.ext HR.out abR hB lr_).at_ hlt
   have HZ:=hd_ hz
   have hbr:b<wr.heap.size:=by omega
   subst hA
   clear hz
   cases hq:(z.src == src) with
   | true =>
     have HE:Hid (cntOf l src=z.kn):=by show _=_;rw [cntOf,find_step0 HZ.out HPR.out hq]
     have hq2:z.src=src:=by simpa using hq
     go_wp2_with fail
     go_ret
     refine ⟨ret_int ?_,by have:=HBB.out;exact bel_⟩
     rw [← HV.out,HE.out]
   | false =>
     have HN:=hd_ (find_step1 HZ.out HPR.out hq)
     have hq2:¬ z.src=src:=by simpa using hq
     go_wp2_with fail
     go_roundw
     case rel=>exact ⟨k+1,by omega,by go_num,HN.out,by have:=HBB.out;exact bel_,HBX.out⟩
     case measure=>exact ms_
  ·obtain rfl:rn=k:=by omega
   have HN5:Hid (l.rc.find? (fun r=>r.src == src)=none):=by show _=_;have h:=HPR.out;rwa [List.take_of_length_le (by rw [HR.out.len];exact lr_)] at h
   clear HPR kF zF
   have kF:=HBX.out.cell
   have zF:=HBX.out.lt
   go_wp2_with fail
   clear kF zF hB hlt hs0
   go_loopw [6] (fun i wr=>∃ k:Nat,k≤tn∧i=.int .i64 k∧(l.rt.take k).find? (fun r=>r.src == src)=none∧Below w.heap.size w wr∧BoxA wr w.heap.size 32 #[.slice pA pn pc,.slice rA rn rc,.slice tA tn tc,.slice sA sn sc]) (fun i _=>tn - (intOf i).toNat)
   case atStart=>exact ⟨0,by omega,rfl,by simp,HBB.out,HBX.out⟩
   case round =>
    obtain ⟨k,hk,rfl,hpre,hB,hbx⟩:=hrel
    have HPR:=hd_ hpre
    have HBX:=hd_ hbx
    have HBB:=hd_ hB
    have kF:=hbx.cell
    have zF:=hbx.lt
    clear hpre hbx
    have hs0:w.heap.size≤wr.heap.size:=hB.size
    by_cases hlt:k<tn
    ·obtain ⟨b,o,z,hA,hb,hz,A1,n1,c1,⟨g0,g1,g2,g3,g4,g5,g6,g7⟩,-,-,-⟩:=(Sq.ext HT.out abT hB lr_).at_ hlt
     have HZ:=hd_ hz
     have hbr:b<wr.heap.size:=by omega
     subst hA
     clear hz
     cases hq:(z.src == src) with
     | true =>
       have HE:Hid (cntOf l src=z.kn):=by show _=_;rw [cntOf,HN5.out,find_step0 HZ.out HPR.out hq]
       have hq2:z.src=src:=by simpa using hq
       go_wp2_with fail
       go_ret
       refine ⟨ret_int ?_,by have:=HBB.out;exact bel_⟩
       rw [← HV.out,HE.out]
     | false =>
       have HN:=hd_ (find_step1 HZ.out HPR.out hq)
       have hq2:¬ z.src=src:=by simpa using hq
       go_wp2_with fail
       go_roundw
       case rel=>exact ⟨k+1,by omega,by go_num,HN.out,by have:=HBB.out;exact bel_,HBX.out⟩
       case measure=>exact ms_
    ·obtain rfl:tn=k:=by omega
     have HN6:Hid (l.rt.find? (fun r=>r.src == src)=none):=by show _=_;have h:=HPR.out;rwa [List.take_of_length_le (by rw [HT.out.len];exact lr_)] at h
     clear HPR kF zF
     have kF:=HBX.out.cell
     have zF:=HBX.out.lt
     go_wp2_with fail
     clear kF zF hB hlt hs0
     go_loopw [7] (fun i wr=>∃ k:Nat,k≤sn∧i=.int .i64 k∧(l.sg.take k).find? (fun r=>r.src == src)=none∧Below w.heap.size w wr∧BoxA wr w.heap.size 32 #[.slice pA pn pc,.slice rA rn rc,.slice tA tn tc,.slice sA sn sc]) (fun i _=>sn - (intOf i).toNat)
     case atStart=>exact ⟨0,by omega,rfl,by simp,HBB.out,HBX.out⟩
     case round =>
      obtain ⟨k,hk,rfl,hpre,hB,hbx⟩:=hrel
      have HPR:=hd_ hpre
      have HBX:=hd_ hbx
      have HBB:=hd_ hB
      have kF:=hbx.cell
      have zF:=hbx.lt
      clear hpre hbx
      have hs0:w.heap.size≤wr.heap.size:=hB.size
      by_cases hlt:k<sn
      ·obtain ⟨b,o,z,hA,hb,hz,g0,g1,g2,g3,g4,g5,g6⟩:=(Sq.ext HS.out abS hB lr_).at_ hlt
       have HZ:=hd_ hz
       have hbr:b<wr.heap.size:=by omega
       subst hA
       clear hz
       cases hq:(z.src == src) with
       | true =>
         have HE:Hid (cntOf l src=z.kn):=by show _=_;rw [cntOf,HN5.out,HN6.out,find_step0 HZ.out HPR.out hq]
         have hq2:z.src=src:=by simpa using hq
         go_wp2_with fail
         go_ret
         refine ⟨ret_int ?_,by have:=HBB.out;exact bel_⟩
         rw [← HV.out,HE.out]
       | false =>
         have HN:=hd_ (find_step1 HZ.out HPR.out hq)
         have hq2:¬ z.src=src:=by simpa using hq
         go_wp2_with fail
         go_roundw
         case rel=>exact ⟨k+1,by omega,by go_num,HN.out,by have:=HBB.out;exact bel_,HBX.out⟩
         case measure=>exact ms_
      ·obtain rfl:sn=k:=by omega
       have HN7:Hid (l.sg.find? (fun r=>r.src == src)=none):=by show _=_;have h:=HPR.out;rwa [List.take_of_length_le (by rw [HS.out.len];exact lr_)] at h
       clear HPR kF zF
       have kF:=HBX.out.cell
       have zF:=HBX.out.lt
       go_wp2_with fail
       go_ret
       refine ⟨ret_int ?_,HBB.out⟩
       rw [← HV.out,cntOf,HN5.out,HN6.out,HN7.out]
end Go.Proofs.YtmcmbicapdcfmaaGreat
