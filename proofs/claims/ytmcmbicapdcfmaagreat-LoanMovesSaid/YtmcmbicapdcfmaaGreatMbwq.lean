/- Layer 2 of the texts that LoanMoves takes: Mbwq. -/
import Derived.Test.YtmcmbicapdcfmaaGreatMbuq
import Derived.Test.YtmcmbicapdcfmaaGreatMbvq
set_option linter.unusedVariables false
set_option linter.unusedSimpArgs false
set_option maxHeartbeats 16000000
namespace Go.Proofs.YtmcmbicapdcfmaaGreat
open Go.ChangeShapes Go.WideShapes Go.ChangeAt Go.RowKit Go.Deep Go.Joins Go.Maps
theorem c5_arr:Tryz.prog.cellsOf 68=5:=by kernel_rfl
theorem c7_arr:Tryz.prog.cellsOf 129=7:=by kernel_rfl
theorem c1_r5:Tryz.prog.cellsOf 22=1:=by kernel_rfl
theorem c1_r7:Tryz.prog.cellsOf 23=1:=by kernel_rfl
theorem c3_raw:Tryz.prog.cellsOf 25=3:=by kernel_rfl
theorem lenx3 {α:Type}:∀ {l:List α},l.length=3→∃ a b c,l=[a,b,c]
 | [a,b,c],_=>⟨a,b,c,rfl⟩
theorem okWide_arr2 {P:Program} {w:World} {r:Reach} {b0:Nat} {v:Value} {t e:TypeId} {n:Nat} (ht:P.underlying t=some (.array n e)) (h:Value.okWide P w r b0 t v):∃ cs,v=.agg cs:=by
 simp only [Value.okWide,ht] at h
 obtain ⟨cs,h1,_⟩:=h
 exact ⟨cs,h1⟩
theorem lenx5 {α:Type}:∀ {l:List α},l.length=5→∃ a0 a1 a2 a3 a4,l=[a0,a1,a2,a3,a4]
 | [a0,a1,a2,a3,a4],_=>⟨a0,a1,a2,a3,a4,rfl⟩
section
variable {H:Type} {enc:TypeId × Value→H} {w:World} {base:Nat} {spare:Nat→Bool} {held:Bool} {r:Reach} {b0:Nat} {v:Value} {d:DataW H} {p:List MemPlace} {fuel:Nat} {cs:List Value} {x:DataW H × List MemPlace}
theorem arr5_of (h:DataW.trod enc Tryz.prog w base spare held fuel 68 cs=some x):∃ l:List Int,l.length=5∧cs=intL l:=by
 obtain ⟨xs,n,_,_,hl,hx,hf⟩:=DataW.trod_array Tryz.underlying68 h
 rw [c5_arr] at hl
 obtain ⟨y0,e0⟩:=some_at hx (i:=0) (by decide)
 obtain ⟨y1,e1⟩:=some_at hx (i:=1) (by decide)
 obtain ⟨y2,e2⟩:=some_at hx (i:=2) (by decide)
 obtain ⟨y3,e3⟩:=some_at hx (i:=3) (by decide)
 obtain ⟨y4,e4⟩:=some_at hx (i:=4) (by decide)
 obtain ⟨c0,c1,c2,c3,c4,rfl⟩:=lenx5 hl
 obtain ⟨a0,h0⟩:=int_of ((hf 0 (by decide)).trans e0)
 obtain ⟨a1,h1⟩:=int_of ((hf 1 (by decide)).trans e1)
 obtain ⟨a2,h2⟩:=int_of ((hf 2 (by decide)).trans e2)
 obtain ⟨a3,h3⟩:=int_of ((hf 3 (by decide)).trans e3)
 obtain ⟨a4,h4⟩:=int_of ((hf 4 (by decide)).trans e4)
 simp [c1_int] at h0 h1 h2 h3 h4
 exact ⟨[a0,a1,a2,a3,a4],rfl,by simp [intL,h0,h1,h2,h3,h4]⟩
theorem arr7_of (h:DataW.trod enc Tryz.prog w base spare held fuel 129 cs=some x):∃ l:List Int,l.length=7∧cs=intL l:=by
 obtain ⟨xs,n,_,_,hl,hx,hf⟩:=DataW.trod_array Tryz.underlying129 h
 rw [c7_arr] at hl
 obtain ⟨y0,e0⟩:=some_at hx (i:=0) (by decide)
 obtain ⟨y1,e1⟩:=some_at hx (i:=1) (by decide)
 obtain ⟨y2,e2⟩:=some_at hx (i:=2) (by decide)
 obtain ⟨y3,e3⟩:=some_at hx (i:=3) (by decide)
 obtain ⟨y4,e4⟩:=some_at hx (i:=4) (by decide)
 obtain ⟨y5,e5⟩:=some_at hx (i:=5) (by decide)
 obtain ⟨y6,e6⟩:=some_at hx (i:=6) (by decide)
 obtain ⟨c0,c1,c2,c3,c4,c5,c6,rfl⟩:=lenx7 hl
 obtain ⟨a0,h0⟩:=int_of ((hf 0 (by decide)).trans e0)
 obtain ⟨a1,h1⟩:=int_of ((hf 1 (by decide)).trans e1)
 obtain ⟨a2,h2⟩:=int_of ((hf 2 (by decide)).trans e2)
 obtain ⟨a3,h3⟩:=int_of ((hf 3 (by decide)).trans e3)
 obtain ⟨a4,h4⟩:=int_of ((hf 4 (by decide)).trans e4)
 obtain ⟨a5,h5⟩:=int_of ((hf 5 (by decide)).trans e5)
 obtain ⟨a6,h6⟩:=int_of ((hf 6 (by decide)).trans e6)
 simp [c1_int] at h0 h1 h2 h3 h4 h5 h6
 exact ⟨[a0,a1,a2,a3,a4,a5,a6],rfl,by simp [intL,h0,h1,h2,h3,h4,h5,h6]⟩
theorem flat_int {s:Nat} (l:List { l:List Int // l.length=s }):l.flatMap (fun v=>intL v.1)=intL (l.flatMap Subtype.val):=by
 induction l with
 | nil=>rfl
 | cons a l ih=>rw [List.flatMap_cons,ih,List.flatMap_cons];simp [intL]
theorem r5_of {A:Option Addr} {n c:Nat} (h:DataW.trod enc Tryz.prog w base spare held fuel 22 (Value.slice A n c).cells.toList=some x):n≤c∧c≤maxLen∧∃ l:List Int,Rd w w.heap.size 5 A n (intL l):=by
 obtain ⟨h1,h2,l,_,h3⟩:=row_of (α:={ l:List Int // l.length=5 }) (fun v=>intL v.1) (fun v=>by simp [intL,v.2]) (by decide) Tryz.underlying22 c5_arr (fun _ _ _ h=>by obtain ⟨v,e,hv⟩:=arr5_of h;exact ⟨⟨v,e⟩,hv⟩) h
 rw [flat_int] at h3
 exact ⟨h1,h2,_,h3⟩
theorem r7_of {A:Option Addr} {n c:Nat} (h:DataW.trod enc Tryz.prog w base spare held fuel 23 (Value.slice A n c).cells.toList=some x):n≤c∧c≤maxLen∧∃ l:List Int,Rd w w.heap.size 7 A n (intL l):=by
 obtain ⟨h1,h2,l,_,h3⟩:=row_of (α:={ l:List Int // l.length=7 }) (fun v=>intL v.1) (fun v=>by simp [intL,v.2]) (by decide) Tryz.underlying23 c7_arr (fun _ _ _ h=>by obtain ⟨v,e,hv⟩:=arr7_of h;exact ⟨⟨v,e⟩,hv⟩) h
 rw [flat_int] at h3
 exact ⟨h1,h2,_,h3⟩
set_option maxRecDepth 100000 in
theorem raw_of (hv:Value.okWide Tryz.prog w r b0 25 v) (h:DataW.Trod enc Tryz.prog w base spare held 25 v d p):∃ (y:Rsl) (l:RawL),v=.agg #[.slice y.aA y.an y.ac,.slice y.bA y.bn y.bc,.slice y.cA y.cn y.cc]∧y.fit∧RawIn w y l:=by
 obtain ⟨cs,rfl,_⟩:=okWide_struct Tryz.underlying25 hv
 obtain ⟨fuel,hf0⟩:=h
 simp only [Value.cells] at hf0
 obtain ⟨xs,n,_,_,hl,hx,hf⟩:=DataW.trod_struct Tryz.underlying25 hf0
 rw [c3_raw] at hl
 obtain ⟨y0,e0⟩:=some_at hx (i:=0) (by decide)
 obtain ⟨y1,e1⟩:=some_at hx (i:=1) (by decide)
 obtain ⟨y2,e2⟩:=some_at hx (i:=2) (by decide)
 obtain ⟨c0,c1,c2,hcs⟩:=lenx3 hl
 rw [hcs] at hf
 have t0:=(hf 0 _ rfl).trans e0
 have t1:=(hf 1 _ rfl).trans e1
 have t2:=(hf 2 _ rfl).trans e2
 obtain ⟨A0,n0,q0,h0⟩:=slice_cell Tryz.underlying22 t0
 obtain ⟨A1,n1,q1,h1⟩:=slice_cell Tryz.underlying23 t1
 obtain ⟨A2,n2,q2,h2⟩:=slice_cell Tryz.underlying22 t2
 rw [h0] at t0
 rw [h1] at t1
 rw [h2] at t2
 obtain ⟨f0,g0,l0,k0⟩:=r5_of t0
 obtain ⟨f1,g1,l1,k1⟩:=r7_of t1
 obtain ⟨f2,g2,l2,k2⟩:=r5_of t2
 simp [c1_r5,c1_r7,Value.cells] at h0 h1 h2
 refine ⟨⟨A0,n0,q0,A1,n1,q1,A2,n2,q2⟩,⟨l0,l1,l2⟩,?_,⟨⟨f0,g0⟩,⟨f1,g1⟩,⟨f2,g2⟩⟩,⟨k0,k1,k2⟩⟩
 congr 1
 apply Array.toList_inj.1
 rw [hcs]
 simp [h0,h1,h2]
end
theorem c3_three3:Tryz.prog.cellsOf 26=3:=by kernel_rfl
section
variable {H:Type} {enc:TypeId × Value→H} {w:World} {base:Nat} {spare:Nat→Bool} {held:Bool} {r:Reach} {b0:Nat} {v:Value} {d:DataW H} {p:List MemPlace}
set_option maxRecDepth 100000 in
theorem three_of (hv:Value.okWide Tryz.prog w r b0 26 v) (h:DataW.Trod enc Tryz.prog w base spare held 26 v d p):∃ a b c:Int,v=.agg #[.int .i64 a,.int .i64 b,.int .i64 c]:=by
 obtain ⟨cs,rfl⟩:=okWide_arr2 Tryz.underlying26 hv
 obtain ⟨fuel,hf0⟩:=h
 simp only [Value.cells] at hf0
 obtain ⟨xs,n,_,_,hl,hx,hf⟩:=DataW.trod_array Tryz.underlying26 hf0
 rw [c3_three3] at hl
 obtain ⟨y0,e0⟩:=some_at hx (i:=0) (by decide)
 obtain ⟨y1,e1⟩:=some_at hx (i:=1) (by decide)
 obtain ⟨y2,e2⟩:=some_at hx (i:=2) (by decide)
 obtain ⟨c0,c1,c2,hcs⟩:=lenx3 hl
 rw [hcs] at hf
 obtain ⟨a0,h0⟩:=int_of ((hf 0 (by decide)).trans e0)
 obtain ⟨a1,h1⟩:=int_of ((hf 1 (by decide)).trans e1)
 obtain ⟨a2,h2⟩:=int_of ((hf 2 (by decide)).trans e2)
 simp [c1_int] at h0 h1 h2
 refine ⟨a0,a1,a2,?_⟩
 congr 1
 apply Array.toList_inj.1
 rw [hcs]
 simp [h0,h1,h2]
end
end Go.Proofs.YtmcmbicapdcfmaaGreat
namespace Go.Proofs.YtmcmbicapdcfmaaGreat
open Go.RowKit Go.Maps
theorem p_Moved_u (l:Led) (x:Lsl) (day kn pap leaf per src:Int) (days:List Int) (D:Option Addr) (m c0:Nat) (p:List (Int × Int)) (v:Int) (w:World) (hf:x.fit) (hd:LedIn w w.heap.size x l) (hm:m≤9223372036854775807) (hdy:Is w w.heap.size D m days) (h:movX l src day kn=(p,v)) :
 Calls Tryz.prog 36 #[.agg #[.slice x.pA x.pn x.pc,.slice x.rA x.rn x.rc,.slice x.tA x.tn x.tc,.slice x.sA x.sn x.sc],.int .i64 src,.int .i64 day,.int .i64 kn] w (RetFE (p,v) w):=by
 have hc:=p_MovedX l x src day kn w hf hd
 rw [h] at hc
 exact hc
theorem movX_len {l:Led} {src day kn v:Int} {p:List (Int × Int)} (h:movX l src day kn=(p,v)):p.length≤1000000:=by
 unfold movX at h
 split at h
 ·rename_i hv
  have h2:=folL_len (led_ok (pre_zero hv).1)
  split at h
  ·split at h
   ·split at h
    ·cases h
     have h1:=List.length_filter_le (fun f=>!decide (whL l kn day f=whL (excL l src) kn day f)) (folL l.pp)
     show (List.filter _ _).length≤_
     omega
    ·cases h;simp
   ·cases h;omega
  ·cases h;simp
 ·cases h;simp
end Go.Proofs.YtmcmbicapdcfmaaGreat
