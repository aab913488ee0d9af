/- Layer 2 of the texts that LoanDoubles takes: Vajq. -/
import Derived.Test.YtoiompoapikkbaaGreatVaeq
import Derived.Test.YtoiompoapikkbaaGreatVaiq
set_option linter.unusedVariables false
set_option linter.unusedSimpArgs false
/- CheckDeed of the reference and of the program, layer 1. -/
namespace Go.Proofs.YtoiompoapikkbaaGreat
open Go.RowKit
end Go.Proofs.YtoiompoapikkbaaGreat
/- checkPersons. -/
namespace Go.Proofs.YtoiompoapikkbaaGreat
open Go.RowKit
end Go.Proofs.YtoiompoapikkbaaGreat
/- The reference's Put: a number put into a rising list. -/
namespace Go.Proofs.YtoiompoapikkbaaGreat
open Go.RowKit
attribute [local go_sem] Oper.semAt_some
theorem run_app {P:Program} (w:World) {base B:Nat} {t ty e:TypeId} {i:TypeInfo} {z:Value} {size bytes:Nat} (ht:P.underlying t=some (.slice e)) (hi:P.info? e=some i) (hz:i.zero=some z)
 (hsize:i.size=size) (hby:i.bytes=bytes) (hzs:z.cells.size=size) (hsz:0<size) {v:Value} {n m c:Nat} {xs news:List Value} {A:Option Addr} (ho:w.ownsRow base e size v n xs)
 (hr:Rd w B size A m news) (h1:∀ u∈news,u.oneCell'=true) (h63:n+m≤maxLen) (hb:(n+m)*bytes≤140737488355328) (hbase:base≤w.heap.size) :
 ∃ v' w',(Builtin.append_ #[t,t] ty #[v,.slice A m c]).run P w=.ok v' w'∧w'.ownsRow base e size v' (n+m) (xs ++ news)∧w.grownBy w' v.ownBlock:=by
 cases A with
 | none =>
   have hm:m=0:=by
    rcases Nat.eq_zero_or_pos m with h | h
    ·exact h
    ·obtain ⟨_,_,e,_⟩:=hr.2 h;cases e
   subst hm
   obtain rfl:news=[]:=List.eq_nil_of_length_eq_zero (by have:=hr.1;omega)
   refine ⟨v,w,?_,by simpa using ho,grown_of_below (Below.refl _ _) |> fun h=>⟨h.os,h.tape,h.output,h.size,fun _ _ _=>rfl⟩⟩
   rcases ho.2 with ⟨rfl,rfl⟩ | ⟨g,cap,cur,rfl,_,_,hnc,_⟩
   ·simp [Builtin.append_,run_underlying ht,sizeOf,typeInfo,hi,Builtin.lenOf,Builtin.firstCells]
   ·simp [Builtin.append_,run_underlying ht,sizeOf,typeInfo,hi,Builtin.lenOf,Builtin.firstCells,hnc,storeCells]
 | some ad =>
   have hnews:∀ j u,news[j]?=some u→w.cell? (ad.add j)=some u:=fun j u hj=>by
    rcases Nat.eq_zero_or_pos m with h | h
    ·subst h
     rw [List.eq_nil_of_length_eq_zero (l:=news) (by have:=hr.1;omega)] at hj
     simp at hj
    ·obtain ⟨b,o,e,_,h2⟩:=hr.2 h
     cases e
     rw [Addr.add_lit]
     exact h2 j u hj
   obtain ⟨v',w',g1,g2,g3,_,_⟩:=run_append_own_at (P:=P) w base t ty e i z size bytes ht hi hz hsize hby hzs hsz v n xs ho ad m c news hr.1 hnews h1 h63 hb hbase
   exact ⟨v',w',g1,g2,g3⟩
theorem own_empty (w:World) (t:TypeId) (size:Nat):(w.alloc (.cells #[] t)).ownsRow w.heap.size t size (.slice (some ⟨w.heap.size,0,none⟩) 0 0) 0 [] :=
 ⟨by simp,.inr ⟨w.heap.size,0,#[],rfl,Nat.le_refl _,World.alloc_heap_new w _,Nat.le_refl _,Nat.zero_le _,by simp,by simp⟩⟩
end Go.Proofs.YtoiompoapikkbaaGreat
/- Layer 2: whether all folios of a list are a ledger's. -/
namespace Go.Proofs.YtoiompoapikkbaaGreat
open Go.RowKit
def QF (w:World) (_ b o:Nat) (f:Int × Int):Prop:=w.cell? ⟨b,o,none⟩=some (.int .i64 f.1)∧w.cell? ⟨b,o+1,none⟩=some (.int .i64 f.2)
theorem abF:Abides QF:=⟨fun w w' B b o x h hb hk=>⟨(hk _ _ hb).trans h.1,(hk _ _ hb).trans h.2⟩,fun _ _ _ _ _ _ h _=>h⟩
abbrev Fos:=Sq QF 2
theorem folCells_get:∀ (fs:List (Int × Int)) (k:Nat) (f:Int × Int),fs[k]?=some f→(folCells fs)[k*2]?=some (.int .i64 f.1)∧(folCells fs)[k*2+1]?=some (.int .i64 f.2)
 | [],k,f,h=>by simp at h
 | g :: fs,0,f,h=>by
   simp at h
   subst h
   simp [folCells]
 | g :: fs,k+1,f,h=>by
   have h1:=folCells_get fs k f (by simpa using h)
   have e:folCells (g :: fs)=.int .i64 g.1 :: .int .i64 g.2 :: folCells fs:=rfl
   rw [e,show (k+1)*2=k*2+1+1 from by omega]
   simpa using h1
theorem fos_of_own {w:World} {base n c:Nat} {A:Option Addr} {fs:List (Int × Int)} (h:w.ownsRow base 60 2 (.slice A n c) n (folCells fs)) (hn:fs.length=n):Fos w w.heap.size A n fs:=by
 have hr:=Rd.of_own h
 refine ⟨hn,fun h0=>?_⟩
 obtain ⟨b,o,e,hb,hc⟩:=hr.2 h0
 refine ⟨b,o,e,hb,fun k f hf=>?_⟩
 obtain ⟨h1,h2⟩:=folCells_get fs k f hf
 exact ⟨hc _ _ h1,by have:=hc _ _ h2;rwa [← Nat.add_assoc] at this⟩
def LedBox (w:World) (bl:Nat) (x:Lsl):Prop:=w.cell? ⟨bl,0,none⟩=some (.slice x.pA x.pn x.pc)∧w.cell? ⟨bl,1,none⟩=some (.slice x.rA x.rn x.rc)∧w.cell? ⟨bl,2,none⟩=some (.slice x.tA x.tn x.tc)∧w.cell? ⟨bl,3,none⟩=some (.slice x.sA x.sn x.sc)
theorem LedBox.lt {w:World} {bl:Nat} {x:Lsl} (h:LedBox w bl x):bl<w.heap.size:=block_lt_of_cell h.1
theorem LedBox.ext {w w':World} {bl:Nat} {x:Lsl} (h:LedBox w bl x) (hb:Below w.heap.size w w'):LedBox w' bl x:=by
 have hl:=h.lt
 obtain ⟨h0,h1,h2,h3⟩:=h
 exact ⟨(hb.cell (p:=⟨bl,0,none⟩) hl).trans h0,(hb.cell (p:=⟨bl,1,none⟩) hl).trans h1,(hb.cell (p:=⟨bl,2,none⟩) hl).trans h2,(hb.cell (p:=⟨bl,3,none⟩) hl).trans h3⟩
set_option maxHeartbeats 1000000 in
theorem p_notHas (pp:List Ppr) (x:Lsl) (a b:Int) (v:Bool) (bl:Nat) (w:World) (hn:x.pn≤9223372036854775807) (hd:Pps w w.heap.size x.pA x.pn pp) (hbx:LedBox w bl x) (hv:folB pp a b=v) :
 Calls Tryz.prog 96 #[.agg #[.int .i64 a,.int .i64 b],.pointer (some ⟨bl,0,none⟩)] w fun e w'=>e=.returned (.bool (!v))∧Below w.heap.size w w':=by
 subst hv
 have HD:=Lib.hid hd
 have hbl:=hbx.lt
 obtain ⟨c0,c1,c2,c3⟩:=hbx
 clear hd
 go_enter Tryz.func96,Tryz.ntmps96
 go_wp2_with (go_at_call 55;refine (p_has pp x a b _ hn (HD.out.now abP (by exact bel_))).mono ?_;rintro e w1 ⟨rfl,hb1⟩)
 go_ret
 exact ⟨rfl,Below.then_ (W:=w.alloc (.cells #[.int .i64 a,.int .i64 b] 60)) (by exact bel_) hb1⟩
def folsB (pp:List Ppr) (fs:List (Int × Int)):Bool:=fs.all fun f=>folB pp f.1 f.2
set_option maxHeartbeats 2000000 in
theorem l_indexFol (pp:List Ppr) (x:Lsl) (fs:List (Int × Int)) (bl:Nat) (A:Option Addr) (n c:Nat) (w:World) (hn:n≤1000000) (hp:x.pn≤9223372036854775807) (hd:Pps w w.heap.size x.pA x.pn pp) (hbx:LedBox w bl x) (h:Fos w w.heap.size A n fs) :
 Calls Tryz.prog 159 #[.slice A n c,.func (.func 96) #[] #[.pointer (some ⟨bl,0,none⟩)]] w fun e w'=>(∃ r:Int,e=.returned (.int .i64 r)∧decide (0≤r)=!folsB pp fs)∧Below w.heap.size w w':=by
 have HI:=Lib.hid h
 have HL:=Lib.hid h.len
 have HD:=Lib.hid hd
 have HX:=Lib.hid hbx
 clear h hd hbx
 go_enter Tryz.func159,Tryz.ntmps159
 go_wp2
 go_loopw [8] (fun i wr=>∃ k:Nat,k≤n∧i=.int .i64 k∧folsB pp (fs.take k)=true∧Below w.heap.size w wr) (fun i _=>n - (intOf i).toNat)
 case atStart=>exact ⟨0,by omega,rfl,rfl,Below.refl _ _⟩
 case round =>
  obtain ⟨k,hk,rfl,ho,hB⟩:=hrel
  have HO:=Lib.hid ho
  clear ho
  by_cases hlt:k<n
  ·obtain ⟨b,o,f,rfl,hb,hf,h0,h1⟩:=(Sq.ext HI.out abF hB (Nat.le_refl _)).at_ hlt
   have HF:=Lib.hid hf
   clear hf
   have hs0:=hB.size
   cases hv:folB pp f.1 f.2 with
   | true =>
     have hN:=Lib.hid (p_notHas pp x f.1 f.2 true bl wr hp (HD.out.now abP hB) (HX.out.ext hB) hv)
     have H1:Hid (folsB pp (fs.take (k+1))=true):=by
      show _=_
      have:=HO.out
      rw [folsB,take_snoc_some HF.out,List.all_append]
      rw [folsB] at this
      simp [this,hv]
     clear hv
     go_wp2_with (go_at_call 96;refine hN.out.mono ?_;rintro e w1 ⟨rfl,hb1⟩)
     go_roundw
     case rel=>exact ⟨k+1,by omega,by go_num,H1.out,Below.then_ hB hb1⟩
     case measure=>exact ms_
   | false =>
     have hN:=Lib.hid (p_notHas pp x f.1 f.2 false bl wr hp (HD.out.now abP hB) (HX.out.ext hB) hv)
     have H1:Hid (folsB pp fs=false):=by
      show _=_
      rw [folsB,List.all_eq_false]
      exact ⟨f,List.mem_of_getElem? HF.out,by simp [hv]⟩
     clear hv
     go_wp2_with (go_at_call 96;refine hN.out.mono ?_;rintro e w1 ⟨rfl,hb1⟩)
     go_ret
     exact ⟨⟨k,rfl,by rw [H1.out];simp⟩,Below.then_ hB hb1⟩
  ·have H1:Hid (folsB pp fs=true):=by
    show _=_
    have:=HO.out
    rwa [List.take_of_length_le (by rw [HL.out];omega)] at this
   go_wp2
   go_ret
   exact ⟨⟨-1,rfl,by rw [H1.out];rfl⟩,hB⟩
theorem l_containsFol (pp:List Ppr) (x:Lsl) (fs:List (Int × Int)) (bl:Nat) (A:Option Addr) (n c:Nat) (w:World) (hn:n≤1000000) (hp:x.pn≤9223372036854775807) (hd:Pps w w.heap.size x.pA x.pn pp) (hbx:LedBox w bl x) (h:Fos w w.heap.size A n fs) :
 Calls Tryz.prog 94 #[.slice A n c,.func (.func 96) #[] #[.pointer (some ⟨bl,0,none⟩)]] w fun e w'=>e=.returned (.bool (!folsB pp fs))∧Below w.heap.size w w':=by
 have HC:=Lib.hid (l_indexFol pp x fs bl A n c w hn hp hd hbx h)
 clear hd hbx h
 go_enter Tryz.func94,Tryz.ntmps94
 go_wp2_with (go_at_call 159;refine HC.out.mono ?_;rintro e w1 ⟨⟨r,rfl,hr⟩,hb1⟩)
 go_ret
 exact ⟨ret_bool (by rw [← hr]),hb1⟩
end Go.Proofs.YtoiompoapikkbaaGreat
