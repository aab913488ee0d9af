/- Layer 2 of the texts that LoanPlaces takes: Pakq. -/
import Derived.Test.YtoiompoapikkbaaGreatPagq
set_option linter.unusedVariables false
set_option linter.unusedSimpArgs false
set_option maxHeartbeats 16000000
namespace Go.Proofs.YtoiompoapikkbaaGreat
open Go.ChangeShapes Go.WideShapes Go.ChangeAt Go.RowKit Go.Deep
theorem own:ownKnob Tryz.prog.godebug=none:=by kernel_rfl
theorem laidOut:laidOutB Tryz.prog=true:=by kernel_rfl
theorem c1_int:Tryz.prog.cellsOf 3=1:=by kernel_rfl
theorem c2_range:Tryz.prog.cellsOf 34=2:=by kernel_rfl
theorem len2 {α:Type}:∀ {l:List α},l.length=2→∃ a b,l=[a,b]
 | [a,b],_=>⟨a,b,rfl⟩
theorem flat_one (l:List Int):(l.flatMap fun p:Int=>[Value.int .i64 p])=l.map fun p=>.int .i64 p:=by
 induction l with
 | nil=>rfl
 | cons a l ih=>rw [List.flatMap_cons,List.map_cons,ih];rfl
section
variable {H:Type} {enc:TypeId × Value→H} {w:World} {base:Nat} {spare:Nat→Bool} {held:Bool} {fuel:Nat} {cs:List Value} {x:DataW H × List MemPlace}
theorem int_of (h:DataW.trod enc Tryz.prog w base spare held fuel 3 cs=some x):∃ a,cs=[.int .i64 a]:=by
 obtain ⟨n,h1,_⟩:=DataW.trod_int Tryz.underlying3 h
 exact ⟨n,h1⟩
theorem some_at {α:Type} {l:List α} {i n:Nat} (hl:l.length=n) (hi:i<n):∃ y,l[i]?=some y:=⟨_,List.getElem?_eq_getElem (by omega)⟩
theorem range_of (h:DataW.trod enc Tryz.prog w base spare held fuel 34 cs=some x):∃ a b,cs=[.int .i64 a,.int .i64 b]:=by
 obtain ⟨xs,n,_,_,hl,hx,hf⟩:=DataW.trod_struct Tryz.underlying34 h
 rw [c2_range] at hl
 obtain ⟨y0,e0⟩:=some_at hx (i:=0) (by decide)
 obtain ⟨y1,e1⟩:=some_at hx (i:=1) (by decide)
 obtain ⟨c0,c1,rfl⟩:=len2 hl
 obtain ⟨a,ha⟩:=int_of ((hf 0 _ rfl).trans e0)
 obtain ⟨b,hb⟩:=int_of ((hf 1 _ rfl).trans e1)
 simp [c1_int] at ha hb
 exact ⟨a,b,by rw [ha,hb]⟩
theorem row_of {α:Type} {e t:TypeId} {size:Nat} (enc':α→List Value) (hk:∀ a,(enc' a).length=size) (hsz:0<size) (ht:Tryz.prog.underlying t=some (.slice e)) (hC:Tryz.prog.cellsOf e=size)
 (hel:∀ (fuel:Nat) (cs:List Value) (x:DataW H × List MemPlace),DataW.trod enc Tryz.prog w base spare held fuel e cs=some x→∃ a,cs=enc' a)
 {A:Option Addr} {n c:Nat} (h:DataW.trod enc Tryz.prog w base spare held fuel t (Value.slice A n c).cells.toList=some x) :
 n≤c∧c≤maxLen∧∃ l:List α,l.length=n∧Rd w w.heap.size size A n (l.flatMap enc'):=by
 rcases open_slice ht h with ⟨hcs,_⟩ | ⟨a,len,cap,m,nn,D,Pl,hcs,_,hl,hm,hmm,_,hi⟩
 ·simp [Value.cells] at hcs
  obtain ⟨rfl,rfl,rfl⟩:=hcs
  exact ⟨lr_,Nat.zero_le _,[],rfl,by simp,fun h0=>absurd h0 (by omega)⟩
 ·simp [Value.cells] at hcs
  obtain ⟨rfl,rfl,rfl⟩:=hcs
  refine ⟨hl,hm,?_⟩
  have hlm:n≤m:=by rw [hmm];split <;> omega
  have hex:∀ i,i<n→∃ y:α,∀ j u,(enc' y)[j]?=some u→w.cell? (a.add (i*size+j))=some u:=fun i hin=>by
   obtain ⟨cs',hc,ht'⟩:=hi i (by omega)
   rw [hC] at hc
   obtain ⟨_,hcl,hat⟩:=World.cells?_some hc
   obtain ⟨y,rfl⟩:=hel _ _ _ ht'
   refine ⟨y,fun j u hj=>?_⟩
   have hjl:j<size:=by have:=(List.getElem?_eq_some_iff.1 hj).1;rw [hk] at this;exact this
   rw [← Go.Deep.add_add,hat j hjl,hj]
  have hlist:∀ k,k≤n→∃ l:List α,l.length=k∧∀ i y,l[i]?=some y→∀ j u,(enc' y)[j]?=some u→w.cell? (a.add (i*size+j))=some u:=by
   intro k
   induction k with
   | zero=>exact fun _=>⟨[],rfl,fun i y hy=>by simp at hy⟩
   | succ k ih =>
     intro hkn
     obtain ⟨l,hll,hlf⟩:=ih (by omega)
     obtain ⟨y,hy⟩:=hex k (by omega)
     refine ⟨l ++ [y],by simp [hll],fun i z hz=>?_⟩
     rw [List.getElem?_append] at hz
     split at hz
     ·exact hlf i z hz
     ·rename_i hik
      have hi0:i - l.length=0:=by have:=(List.getElem?_eq_some_iff.1 hz).1;simp at this;omega
      rw [hi0] at hz
      obtain rfl:y=z:=by simpa using hz
      obtain rfl:i=k:=by omega
      exact hy
  obtain ⟨l,hll,hlf⟩:=hlist n lr_
  have hfl:(l.flatMap enc').length=n*size:=by
   rw [← hll]
   clear hlf hll hlist
   induction l with
   | nil=>simp
   | cons y l ih=>simp only [List.flatMap_cons,List.length_append,hk,ih,List.length_cons];rw [Nat.succ_mul];omega
  have hget:∀ t u,(l.flatMap enc')[t]?=some u→w.cell? (a.add t)=some u:=fun t u ht=>by
   have hlt:t<n*size:=by have:=(List.getElem?_eq_some_iff.1 ht).1;omega
   have key:∀ (l:List α) (t:Nat),(l.flatMap enc')[t]?=(l[t / size]?).bind fun y=>(enc' y)[t % size]?:=by
    intro l
    induction l with
    | nil=>intro t;simp
    | cons y l ih =>
      intro t
      rw [List.flatMap_cons,List.getElem?_append,hk]
      by_cases h1:t<size
      ·rw [if_pos h1,Nat.div_eq_of_lt h1,Nat.mod_eq_of_lt h1]
       rfl
      ·rw [if_neg h1,ih]
       have e1:t / size=(t - size) / size+1:=by
        rw [Nat.div_eq t size,if_pos ⟨hsz,by omega⟩]
       have e2:t % size=(t - size) % size:=Nat.mod_eq_sub_mod (by omega)
       rw [e1,e2,List.getElem?_cons_succ]
   rw [key] at ht
   obtain ⟨y,hy,hu⟩:=Option.bind_eq_some_iff.1 ht
   have:=hlf _ y hy _ u hu
   have e3:t / size*size+t % size=t:=by rw [Nat.mul_comm];exact Nat.div_add_mod t size
   rwa [e3] at this
  refine ⟨l,hll,hfl,fun h0=>?_⟩
  obtain ⟨u0,hu0⟩:∃ u,(l.flatMap enc')[0]?=some u:=⟨_,List.getElem?_eq_getElem (by rw [hfl];exact Nat.mul_pos h0 hsz)⟩
  obtain ⟨b,off,spot⟩:=a
  have hspot:spot=none:=by simpa [Addr.add] using World.cell?_spot (hget 0 u0 hu0)
  subst hspot
  have hc0:=hget 0 u0 hu0
  rw [Go.WideShapes.add_plain] at hc0
  refine ⟨b,off,rfl,?_,fun j u hj=>by rw [← Go.WideShapes.add_plain];exact hget j u hj⟩
  exact block_lt_of_cell hc0
theorem ints_of {A:Option Addr} {n c:Nat} (h:DataW.trod enc Tryz.prog w base spare held fuel 30 (Value.slice A n c).cells.toList=some x):n≤c∧c≤maxLen∧∃ l:List Int,Is w w.heap.size A n l:=by
 obtain ⟨h1,h2,l,_,h3⟩:=row_of (fun p:Int=>[.int .i64 p]) (fun _=>rfl) (by decide) Tryz.underlying30 c1_int (fun _ _ _ h=>int_of h) h
 rw [flat_one] at h3
 exact ⟨h1,h2,l,h3⟩
end
end Go.Proofs.YtoiompoapikkbaaGreat
namespace Go.Proofs.YtoiompoapikkbaaGreat
open Go.RowKit
def lvOf:List Ppr→Int→Int
 | [],_=>0
 | p :: ps,n=>if p.id=n then p.lv else lvOf ps n
theorem lvOf_at {pp:List Ppr} {k:Nat} {p:Ppr} (n:Int) (h:pp[k]?=some p):lvOf (pp.drop k) n=if p.id=n then p.lv else lvOf (pp.drop (k+1)) n:=by
 have hlt:k<pp.length:=(List.getElem?_eq_some_iff.1 h).1
 have hp:pp[k]=p:=(List.getElem?_eq_some_iff.1 h).2
 rw [List.drop_eq_getElem_cons hlt,hp,lvOf]
def folB (pp:List Ppr) (pap leaf:Int):Bool:=withinB leaf 1 (lvOf pp pap)
theorem p_leaves (pp:List Ppr) (x:Lsl) (n:Int) (w:World) (hn:x.pn≤9223372036854775807) (hd:Pps w w.heap.size x.pA x.pn pp) :
 Calls Tryz.prog 125 #[.agg #[.slice x.pA x.pn x.pc,.slice x.rA x.rn x.rc,.slice x.tA x.tn x.tc,.slice x.sA x.sn x.sc],.int .i64 n] w fun e w'=>e=.returned (.int .i64 (lvOf pp n))∧Below w.heap.size w w':=by
 have hlen:=hd.len
 have HD:=hd_ hd
 have HL:=hd_ hlen
 clear hd hlen
 go_enter Tryz.func125,Tryz.ntmps125
 go_wp2
 go_loopw [10] (fun i wr=>∃ k:Nat,k≤x.pn∧i=.int .i64 k∧lvOf (pp.drop k) n=lvOf pp n∧Below w.heap.size w wr) (fun i _=>x.pn - (intOf i).toNat)
 case atStart=>exact ⟨0,by omega,rfl,rfl,by exact bel_⟩
 case round =>
  obtain ⟨k,hk,rfl,hv,hB⟩:=hrel
  have HV:=hd_ hv
  clear hv
  by_cases hlt:k<x.pn
  ·have hs0:w.heap.size≤wr.heap.size:=hB.size
   obtain ⟨b,o,p,hA,hb,hp,h0,h1⟩:=(Sq.ext HD.out abP hB lr_).at_ hlt
   have HP:=hd_ (lvOf_at n hp)
   have hbr:b<wr.heap.size:=by omega
   clear hp
   by_cases he:p.id=n
   ·go_wp2
    go_ret
    exact ⟨ret_int (by rw [← HV.out,HP.out,if_pos he]),by exact bel_⟩
   ·go_wp2
    go_roundw
    case rel=>exact ⟨k+1,by omega,by go_num,by rw [← HV.out,HP.out,if_neg he],by exact bel_⟩
    case measure=>exact ms_
  ·have hkn:Hid (k=x.pn):=by show _=_;omega
   go_wp2
   go_ret
   exact ⟨ret_int (by rw [← HV.out,List.drop_eq_nil_of_le (by rw [HL.out,hkn.out];exact lr_)];rfl),hB⟩
theorem r_leavesOf (pp:List Ppr) (x:Lsl) (n:Int) (w:World) (hn:x.pn≤9223372036854775807) (hd:Pps w w.heap.size x.pA x.pn pp) :
 Calls Tryz.prog 128 #[.agg #[.slice x.pA x.pn x.pc,.slice x.rA x.rn x.rc,.slice x.tA x.tn x.tc,.slice x.sA x.sn x.sc],.int .i64 n] w fun e w'=>e=.returned (.int .i64 (lvOf pp n))∧Below w.heap.size w w':=by
 have hlen:=hd.len
 have HD:=hd_ hd
 have HL:=hd_ hlen
 clear hd hlen
 go_enter Tryz.func128,Tryz.ntmps128
 go_wp2
 go_loopw [5] (fun i wr=>∃ k:Nat,k≤x.pn∧i=.int .i64 k∧lvOf (pp.drop k) n=lvOf pp n∧wr=w.alloc (.cells #[.slice x.pA x.pn x.pc,.slice x.rA x.rn x.rc,.slice x.tA x.tn x.tc,.slice x.sA x.sn x.sc] 27)) (fun i _=>x.pn - (intOf i).toNat)
 case atStart=>exact ⟨0,by omega,rfl,rfl,rfl⟩
 case round =>
  obtain ⟨k,hk,rfl,hv,rfl⟩:=hrel
  have HV:=hd_ hv
  clear hv
  by_cases hlt:k<x.pn
  ·obtain ⟨b,o,p,hA,hb,hp,h0,h1⟩:=HD.out.at_ hlt
   have HP:=hd_ (lvOf_at n hp)
   clear hp
   by_cases he:p.id=n
   ·go_wp2
    go_ret
    exact ⟨ret_int (by rw [← HV.out,HP.out,if_pos he]),by exact bel_⟩
   ·go_wp2
    go_roundw
    case rel=>exact ⟨k+1,by omega,by go_num,by rw [← HV.out,HP.out,if_neg he],by rw [hA]⟩
    case measure=>exact ms_
  ·have hkn:Hid (k=x.pn):=by show _=_;omega
   go_wp2
   go_ret
   exact ⟨ret_int (by rw [← HV.out,List.drop_eq_nil_of_le (by rw [HL.out,hkn.out];exact lr_)];rfl),by exact bel_⟩
theorem p_has (pp:List Ppr) (x:Lsl) (a b:Int) (w:World) (hn:x.pn≤9223372036854775807) (hd:Pps w w.heap.size x.pA x.pn pp) :
 Calls Tryz.prog 55 #[.agg #[.slice x.pA x.pn x.pc,.slice x.rA x.rn x.rc,.slice x.tA x.tn x.tc,.slice x.sA x.sn x.sc],.agg #[.int .i64 a,.int .i64 b]] w fun e w'=>e=.returned (.bool (folB pp a b))∧Below w.heap.size w w':=by
 have HD:=hd_ hd
 clear hd
 go_enter Tryz.func55,Tryz.ntmps55
 go_wp2_with fail
 have HD1:Hid (Pps ((w.alloc (.cells #[.slice x.pA x.pn x.pc,.slice x.rA x.rn x.rc,.slice x.tA x.tn x.tc,.slice x.sA x.sn x.sc] 27)).alloc (.cells #[.int .i64 a,.int .i64 b] 60)) ((w.alloc (.cells #[.slice x.pA x.pn x.pc,.slice x.rA x.rn x.rc,.slice x.tA x.tn x.tc,.slice x.sA x.sn x.sc] 27)).alloc (.cells #[.int .i64 a,.int .i64 b] 60)).heap.size x.pA x.pn pp):=by
  show Sq _ _ _ _ _ _ _
  exact HD.out.now abP (by exact bel_)
 (refine rg_ ?_;(repeat (go_big_quiet_step ((first | (go_at_call_of 125 (Value.agg #[.slice x.pA x.pn x.pc,.slice x.rA x.rn x.rc,.slice x.tA x.tn x.tc,.slice x.sA x.sn x.sc]);exact Calls.grow_all (fun g=>p_leaves pp x a g.1 hn (HD1.out.now abP g.2))) | (go_at_call 72;exact Calls.grow_same (p_within _ _ _ _))))));refine qn_ fun w1 hb1 hc1 hf1=>?_)
 go_wp2_with fail
 go_ret
 exact ⟨rfl,bt_ (W:=(w.alloc (.cells #[.slice x.pA x.pn x.pc,.slice x.rA x.rn x.rc,.slice x.tA x.tn x.tc,.slice x.sA x.sn x.sc] 27)).alloc (.cells #[.int .i64 a,.int .i64 b] 60)) (by exact bel_) hb1⟩
theorem r_isFolio (pp:List Ppr) (x:Lsl) (a b:Int) (w:World) (hn:x.pn≤9223372036854775807) (hd:Pps w w.heap.size x.pA x.pn pp) :
 Calls Tryz.prog 64 #[.agg #[.slice x.pA x.pn x.pc,.slice x.rA x.rn x.rc,.slice x.tA x.tn x.tc,.slice x.sA x.sn x.sc],.agg #[.int .i64 a,.int .i64 b]] w fun e w'=>e=.returned (.bool (folB pp a b))∧Below w.heap.size w w':=by
 have HD:=hd_ hd
 clear hd
 go_enter Tryz.func64,Tryz.ntmps64
 go_wp2_with fail
 have HD1:Hid (Pps ((w.alloc (.cells #[.slice x.pA x.pn x.pc,.slice x.rA x.rn x.rc,.slice x.tA x.tn x.tc,.slice x.sA x.sn x.sc] 27)).alloc (.cells #[.int .i64 a,.int .i64 b] 60)) ((w.alloc (.cells #[.slice x.pA x.pn x.pc,.slice x.rA x.rn x.rc,.slice x.tA x.tn x.tc,.slice x.sA x.sn x.sc] 27)).alloc (.cells #[.int .i64 a,.int .i64 b] 60)).heap.size x.pA x.pn pp):=by
  show Sq _ _ _ _ _ _ _
  exact HD.out.now abP (by exact bel_)
 (refine rg_ ?_;(repeat (go_big_quiet_step ((first | (go_at_call_of 128 (Value.agg #[.slice x.pA x.pn x.pc,.slice x.rA x.rn x.rc,.slice x.tA x.tn x.tc,.slice x.sA x.sn x.sc]);exact Calls.grow_all (fun g=>r_leavesOf pp x a g.1 hn (HD1.out.now abP g.2))) | (go_at_call 73;exact Calls.grow_same (r_In2 _ _ _ _))))));refine qn_ fun w1 hb1 hc1 hf1=>?_)
 go_wp2_with fail
 go_ret
 exact ⟨rfl,bt_ (W:=(w.alloc (.cells #[.slice x.pA x.pn x.pc,.slice x.rA x.rn x.rc,.slice x.tA x.tn x.tc,.slice x.sA x.sn x.sc] 27)).alloc (.cells #[.int .i64 a,.int .i64 b] 60)) (by exact bel_) hb1⟩
theorem p_folioOf (s:Sgt) (w:World):Calls Tryz.prog 56 #[.agg #[.int .i64 s.src,.int .i64 s.per,.int .i64 s.pap,.int .i64 s.leaf,.int .i64 s.day,.int .i64 s.kn,.int .i64 s.un]] w fun e w'=>e=.returned (.agg #[.int .i64 s.pap,.int .i64 s.leaf])∧Below w.heap.size w w':=by
 go_enter Tryz.func56,Tryz.ntmps56
 go_wp2
 refine bodyPost_ret (v:=.agg #[.int .i64 s.pap,.int .i64 s.leaf]) (by simp [results,Tryz.f56,go_sem]) rfl ⟨rfl,by exact bel_⟩
end Go.Proofs.YtoiompoapikkbaaGreat
