/- Layer 2 of the texts that LoanDoubles takes: Vaoq. -/
import Derived.Test.YtoiompoapikkbaaGreatVahq
import Derived.Test.YtoiompoapikkbaaGreatVakq
set_option linter.unusedVariables false
set_option linter.unusedSimpArgs false
/- Slices of deeds, of items, of numbers that come in, as data: what cells they have. -/
namespace Go.Proofs.YtoiompoapikkbaaGreat
open Go.ChangeShapes Go.WideShapes Go.ChangeAt Go.RowKit Go.Deep
theorem own:ownKnob Tryz.prog.godebug=none:=by kernel_rfl
theorem laidOut:laidOutB Tryz.prog=true:=by kernel_rfl
theorem c1_int:Tryz.prog.cellsOf 3=1:=by kernel_rfl
theorem c2_range:Tryz.prog.cellsOf 34=2:=by kernel_rfl
theorem len2 {α:Type}:∀ {l:List α},l.length=2→∃ a b,l=[a,b]
 | [a,b],_=>⟨a,b,rfl⟩
theorem flat_one (l:List Int):(l.flatMap fun p:Int=>[Value.int .i64 p])=l.map fun p=>.int .i64 p:=by
 induction l with
 | nil=>rfl
 | cons a l ih=>rw [List.flatMap_cons,List.map_cons,ih];rfl
section
variable {H:Type} {enc:TypeId × Value→H} {w:World} {base:Nat} {spare:Nat→Bool} {held:Bool} {fuel:Nat} {cs:List Value} {x:DataW H × List MemPlace}
theorem int_of (h:DataW.trod enc Tryz.prog w base spare held fuel 3 cs=some x):∃ a,cs=[.int .i64 a]:=by
 obtain ⟨n,h1,_⟩:=DataW.trod_int Tryz.underlying3 h
 exact ⟨n,h1⟩
theorem some_at {α:Type} {l:List α} {i n:Nat} (hl:l.length=n) (hi:i<n):∃ y,l[i]?=some y:=⟨_,List.getElem?_eq_getElem (by omega)⟩
theorem range_of (h:DataW.trod enc Tryz.prog w base spare held fuel 34 cs=some x):∃ a b,cs=[.int .i64 a,.int .i64 b]:=by
 obtain ⟨xs,n,_,_,hl,hx,hf⟩:=DataW.trod_struct Tryz.underlying34 h
 rw [c2_range] at hl
 obtain ⟨y0,e0⟩:=some_at hx (i:=0) (by decide)
 obtain ⟨y1,e1⟩:=some_at hx (i:=1) (by decide)
 obtain ⟨c0,c1,rfl⟩:=len2 hl
 obtain ⟨a,ha⟩:=int_of ((hf 0 _ rfl).trans e0)
 obtain ⟨b,hb⟩:=int_of ((hf 1 _ rfl).trans e1)
 simp [c1_int] at ha hb
 exact ⟨a,b,by rw [ha,hb]⟩
theorem row_of {α:Type} {e t:TypeId} {size:Nat} (enc':α→List Value) (hk:∀ a,(enc' a).length=size) (hsz:0<size) (ht:Tryz.prog.underlying t=some (.slice e)) (hC:Tryz.prog.cellsOf e=size)
 (hel:∀ (fuel:Nat) (cs:List Value) (x:DataW H × List MemPlace),DataW.trod enc Tryz.prog w base spare held fuel e cs=some x→∃ a,cs=enc' a)
 {A:Option Addr} {n c:Nat} (h:DataW.trod enc Tryz.prog w base spare held fuel t (Value.slice A n c).cells.toList=some x) :
 n≤c∧c≤maxLen∧∃ l:List α,l.length=n∧Rd w w.heap.size size A n (l.flatMap enc'):=by
 rcases open_slice ht h with ⟨hcs,_⟩ | ⟨a,len,cap,m,nn,D,Pl,hcs,_,hl,hm,hmm,_,hi⟩
 ·simp [Value.cells] at hcs
  obtain ⟨rfl,rfl,rfl⟩:=hcs
  exact ⟨Nat.le_refl _,Nat.zero_le _,[],rfl,by simp,fun h0=>absurd h0 (by omega)⟩
 ·simp [Value.cells] at hcs
  obtain ⟨rfl,rfl,rfl⟩:=hcs
  refine ⟨hl,hm,?_⟩
  have hlm:n≤m:=by rw [hmm];split <;> omega
  have hex:∀ i,i<n→∃ y:α,∀ j u,(enc' y)[j]?=some u→w.cell? (a.add (i*size+j))=some u:=fun i hin=>by
   obtain ⟨cs',hc,ht'⟩:=hi i (by omega)
   rw [hC] at hc
   obtain ⟨_,hcl,hat⟩:=World.cells?_some hc
   obtain ⟨y,rfl⟩:=hel _ _ _ ht'
   refine ⟨y,fun j u hj=>?_⟩
   have hjl:j<size:=by have:=(List.getElem?_eq_some_iff.1 hj).1;rw [hk] at this;exact this
   rw [← Go.Deep.add_add,hat j hjl,hj]
  have hlist:∀ k,k≤n→∃ l:List α,l.length=k∧∀ i y,l[i]?=some y→∀ j u,(enc' y)[j]?=some u→w.cell? (a.add (i*size+j))=some u:=by
   intro k
   induction k with
   | zero=>exact fun _=>⟨[],rfl,fun i y hy=>by simp at hy⟩
   | succ k ih =>
     intro hkn
     obtain ⟨l,hll,hlf⟩:=ih (by omega)
     obtain ⟨y,hy⟩:=hex k (by omega)
     refine ⟨l ++ [y],by simp [hll],fun i z hz=>?_⟩
     rw [List.getElem?_append] at hz
     split at hz
     ·exact hlf i z hz
     ·rename_i hik
      have hi0:i - l.length=0:=by have:=(List.getElem?_eq_some_iff.1 hz).1;simp at this;omega
      rw [hi0] at hz
      obtain rfl:y=z:=by simpa using hz
      obtain rfl:i=k:=by omega
      exact hy
  obtain ⟨l,hll,hlf⟩:=hlist n (Nat.le_refl _)
  have hfl:(l.flatMap enc').length=n*size:=by
   rw [← hll]
   clear hlf hll hlist
   induction l with
   | nil=>simp
   | cons y l ih=>simp only [List.flatMap_cons,List.length_append,hk,ih,List.length_cons];rw [Nat.succ_mul];omega
  have hget:∀ t u,(l.flatMap enc')[t]?=some u→w.cell? (a.add t)=some u:=fun t u ht=>by
   have hlt:t<n*size:=by have:=(List.getElem?_eq_some_iff.1 ht).1;omega
   have key:∀ (l:List α) (t:Nat),(l.flatMap enc')[t]?=(l[t / size]?).bind fun y=>(enc' y)[t % size]?:=by
    intro l
    induction l with
    | nil=>intro t;simp
    | cons y l ih =>
      intro t
      rw [List.flatMap_cons,List.getElem?_append,hk]
      by_cases h1:t<size
      ·rw [if_pos h1,Nat.div_eq_of_lt h1,Nat.mod_eq_of_lt h1]
       rfl
      ·rw [if_neg h1,ih]
       have e1:t / size=(t - size) / size+1:=by
        rw [Nat.div_eq t size,if_pos ⟨hsz,by omega⟩]
       have e2:t % size=(t - size) % size:=Nat.mod_eq_sub_mod (by omega)
       rw [e1,e2,List.getElem?_cons_succ]
   rw [key] at ht
   obtain ⟨y,hy,hu⟩:=Option.bind_eq_some_iff.1 ht
   have:=hlf _ y hy _ u hu
   have e3:t / size*size+t % size=t:=by rw [Nat.mul_comm];exact Nat.div_add_mod t size
   rwa [e3] at this
  refine ⟨l,hll,hfl,fun h0=>?_⟩
  obtain ⟨u0,hu0⟩:∃ u,(l.flatMap enc')[0]?=some u:=⟨_,List.getElem?_eq_getElem (by rw [hfl];exact Nat.mul_pos h0 hsz)⟩
  obtain ⟨b,off,spot⟩:=a
  have hspot:spot=none:=by simpa [Addr.add] using World.cell?_spot (hget 0 u0 hu0)
  subst hspot
  have hc0:=hget 0 u0 hu0
  rw [Go.WideShapes.add_plain] at hc0
  refine ⟨b,off,rfl,?_,fun j u hj=>by rw [← Go.WideShapes.add_plain];exact hget j u hj⟩
  exact block_lt_of_cell hc0
theorem ints_of {A:Option Addr} {n c:Nat} (h:DataW.trod enc Tryz.prog w base spare held fuel 30 (Value.slice A n c).cells.toList=some x):n≤c∧c≤maxLen∧∃ l:List Int,Is w w.heap.size A n l:=by
 obtain ⟨h1,h2,l,_,h3⟩:=row_of (fun p:Int=>[.int .i64 p]) (fun _=>rfl) (by decide) Tryz.underlying30 c1_int (fun _ _ _ h=>int_of h) h
 rw [flat_one] at h3
 exact ⟨h1,h2,l,h3⟩
end
end Go.Proofs.YtoiompoapikkbaaGreat
/- Layer 2: Has and apart of the reference. -/
namespace Go.Proofs.YtoiompoapikkbaaGreat
open Go.RowKit
theorem mem_take_succ {l:List Int} {k:Nat} {x n:Int} (h:l[k]?=some x):n∈l.take (k+1)↔n∈l.take k∨n=x:=by
 rw [take_snoc_some h,List.mem_append,List.mem_singleton]
set_option maxHeartbeats 1000000 in
theorem r_Has2 (l:List Int) (v:Int) (A:Option Addr) (n c:Nat) (w:World) (hn:n≤9223372036854775807) (hd:Is w w.heap.size A n l) :
 Calls Tryz.prog 65 #[.slice A n c,.int .i64 v] w fun e w'=>e=.returned (.bool (decide (v∈l)))∧Below w.heap.size w w':=by
 have hlen:=hd.len
 have HD:=Lib.hid hd
 have HL:=Lib.hid hlen
 clear hd hlen
 go_enter Tryz.func65,Tryz.ntmps65
 go_wp2
 go_loopw [5] (fun i wr=>∃ k:Nat,k≤n∧i=.int .i64 k∧v ∉ l.take k∧Below w.heap.size w wr) (fun i _=>n - (intOf i).toNat)
 case atStart=>exact ⟨0,by omega,rfl,by simp,Below.refl _ _⟩
 case round =>
  obtain ⟨k,hk,rfl,hno,hB⟩:=hrel
  have HNo:=Lib.hid hno
  clear hno
  by_cases hlt:k<n
  ·obtain ⟨b,o,x,rfl,hb,hx,hc0⟩:=(Is.ext HD.out hB (Nat.le_refl _)).at_ hlt
   have HX:=Lib.hid hx
   clear hx
   by_cases he:x=v
   ·go_wp2
    go_ret
    exact ⟨ret_bool (by rw [he] at HX;simp [List.mem_of_getElem? HX.out]),hB⟩
   ·go_wp2
    go_roundw
    case rel=>exact ⟨k+1,by omega,by go_num,by rw [mem_take_succ HX.out];exact fun h=>h.elim HNo.out fun e=>he e.symm,hB⟩
    case measure=>exact ms_
  ·have hkn:Hid (k=n):=by show _=_;omega
   go_wp2
   go_ret
   refine ⟨ret_bool ?_,hB⟩
   have h:=HNo.out
   rw [List.take_of_length_le (by rw [HL.out,hkn.out];exact Nat.le_refl _)] at h
   simp [h]
set_option maxHeartbeats 2000000 in
theorem r_apart2 (l:List Int) (A:Option Addr) (n c:Nat) (w:World) (hn:n≤1000000) (hd:Is w w.heap.size A n l) :
 Calls Tryz.prog 97 #[.slice A n c] w fun e w'=>e=.returned (.bool (decide l.Nodup))∧Below w.heap.size w w':=by
 have hlen:=hd.len
 have HD:=Lib.hid hd
 have HL:=Lib.hid hlen
 clear hd hlen
 go_enter Tryz.func97,Tryz.ntmps97
 go_wp2
 go_loopw [3] (fun i wr=>∃ k:Nat,k≤n∧i=.int .i64 k∧(l.take k).Nodup∧Below w.heap.size w wr) (fun i _=>n - (intOf i).toNat)
 case atStart=>exact ⟨0,by omega,rfl,by simp,Below.refl _ _⟩
 case round =>
  obtain ⟨k,hk,rfl,hno,hB⟩:=hrel
  have HNo:=Lib.hid hno
  clear hno
  by_cases hlt:k<n
  ·obtain ⟨b,o,x,rfl,hb,hx,hc0⟩:=(Is.ext HD.out hB (Nat.le_refl _)).at_ hlt
   have HX:=Lib.hid hx
   clear hx
   go_wp2
   go_loopw [4] (fun i wq=>∃ j:Nat,j≤k∧i=.int .i64 j∧x ∉ l.take j∧Below w.heap.size w wq) (fun i _=>k - (intOf i).toNat)
   case atStart=>exact ⟨0,by omega,rfl,by simp,hB⟩
   case round =>
    obtain ⟨j,hj,rfl,hni,hQ⟩:=hrel
    have HNi:=Lib.hid hni
    clear hni
    by_cases hjk:j<k
    ·obtain ⟨b',o',y,e',_,hy,hc1⟩:=(Is.ext HD.out hQ (Nat.le_refl _)).at_ (k:=j) (by omega)
     obtain ⟨rfl,rfl⟩:b=b'∧o=o':=by simpa using e'
     obtain ⟨b2,o2,x2,e2,_,hx2,hc2⟩:=(Is.ext HD.out hQ (Nat.le_refl _)).at_ (k:=k) hlt
     obtain ⟨rfl,rfl⟩:b=b2∧o=o2:=by simpa using e2
     obtain rfl:x2=x:=Option.some.inj (hx2.symm.trans HX.out)
     have HY:=Lib.hid hy
     clear hy e' e2 hx2
     have hs0:w.heap.size≤wr.heap.size:=hQ.size
     have hbr:b<wr.heap.size:=by omega
     by_cases hxy:x2=y
     ·go_wp2_with fail
      (refine rg_ ?_;(repeat (go_big_quiet_step (fail)));refine qn_ fun w1 hb1 hc1 hf1=>?_)
      go_wp2_with fail
      go_ret
      refine ⟨ret_bool ?_,Below.then_ hQ hb1⟩
      have h1:¬ l.Nodup:=fun h=>by
       have h3:=(List.getElem?_inj (by rw [HL.out];omega) h (i:=j) (j:=k)).1 (by rw [HY.out,HX.out,hxy])
       omega
      simp [h1]
     ·go_wp2_with fail
      (refine rg_ ?_;(repeat (go_big_quiet_step (fail)));refine qn_ fun w1 hb1 hc1 hf1=>?_)
      go_wp2_with fail
      go_roundw
      case rel=>exact ⟨j+1,by omega,by go_num,by rw [mem_take_succ HY.out];exact fun h=>h.elim HNi.out hxy,Below.then_ hQ hb1⟩
      case measure=>exact ms_
    ·have hkj:Hid (j=k):=by show _=_;omega
     go_wp2
     go_roundw
     case rel =>
      refine ⟨k+1,by omega,by go_num,?_,hQ⟩
      rw [take_snoc_some HX.out,List.nodup_append]
      have h:=HNi.out
      rw [hkj.out] at h
      exact ⟨HNo.out,by simp,fun a ha b hb' e=>by rw [List.mem_singleton] at hb';exact h (by rw [← hb',← e];exact ha)⟩
     case measure=>exact ms_
  ·have hkn:Hid (k=n):=by show _=_;omega
   go_wp2
   go_ret
   refine ⟨ret_bool ?_,hB⟩
   have h:=HNo.out
   rw [List.take_of_length_le (by rw [HL.out,hkn.out];exact Nat.le_refl _)] at h
   simp [h]
end Go.Proofs.YtoiompoapikkbaaGreat
/- Layer 2: a row of the call's own sorted and compacted; of a sorted list, that compacting leaves its length tells whether all numbers differ. -/
namespace Go.Proofs.YtoiompoapikkbaaGreat
open Go.RowKit Go.Sort
def srtI (xs:List Int):List Int:=xs.mergeSort fun x y=>decide (x≤y)
theorem srtI_len (xs:List Int):(srtI xs).length=xs.length:=List.length_mergeSort ..
theorem srtI_perm (xs:List Int):(srtI xs).Perm xs:=List.mergeSort_perm ..
theorem srtI_pair (xs:List Int):(srtI xs).Pairwise (·≤·):=by
 have h:=List.pairwise_mergeSort (le:=fun x y:Int=>decide (x≤y)) (fun a b c h1 h2=>by simp at h1 h2 ⊢;omega) (fun a b=>by simp;omega) xs
 exact h.imp fun h=>by simpa using h
theorem adj_nodup {zs:List Int} (hs:zs.Pairwise (·≤·)) (h:∀ j (h1:j+1<zs.length),zs[j+1]≠zs[j]):zs.Nodup:=by
 induction zs with
 | nil=>exact List.nodup_nil
 | cons a l ih =>
   rw [List.nodup_cons]
   rw [List.pairwise_cons] at hs
   have hl:=ih hs.2 fun j h1=>by
    have:=h (j+1) (by simp;omega)
    simpa using this
   refine ⟨fun ha=>?_,hl⟩
   cases l with
   | nil=>simp at ha
   | cons b m =>
     have h0:=h 0 (by simp)
     simp at h0
     have hab:=hs.1 b (by simp)
     rw [List.pairwise_cons] at hs
     rcases List.mem_cons.1 ha with e | hm
     ·exact h0 e.symm
     ·have:=hs.2.1 a hm
      omega
theorem compact_nodup {zs:List Int} (hs:zs.Pairwise (·≤·)):decide ((Lib.compact zs).length=zs.length)=decide zs.Nodup:=by
 rw [decide_eq_decide]
 constructor
 ·intro h
  have hall:∀ j,j<zs.length→Lib.keeps zs.toArray j=true:=by
   have h2:((List.range zs.length).filter (Lib.keeps zs.toArray)).length=(List.range zs.length).length:=by
    have h3:=h
    simp only [Lib.compact,Lib.compactUpTo,List.length_map] at h3
    simpa using h3
   intro j hj
   exact (List.length_filter_eq_length_iff.1 h2) j (List.mem_range.2 hj)
  refine adj_nodup hs fun j h1 e=>?_
  have:=hall (j+1) h1
  rw [Lib.keeps_neg (by omega) (by simp [h1,show j<zs.length by omega,e])] at this
  cases this
 ·intro h
  have hk:∀ j,j<zs.length→Lib.keeps zs.toArray j=true:=fun j hj=>by
   cases j with
   | zero=>exact Lib.keeps_lt_one _ 0 (by omega)
   | succ j =>
     refine Lib.keeps_pos ?_
     simp only [Nat.add_sub_cancel]
     intro e
     have e2:zs[j+1]=zs[j]'(by omega):=by simpa [hj,show j<zs.length by omega] using e
     have:=(List.getElem_inj h).1 e2
     omega
  rw [Lib.compact_all zs hk]
theorem p_SortI {base n c:Nat} {A:Option Addr} {xs:List Int} (w:World) (hn:n≤1000000) (h:w.ownsRow base 3 1 (.slice A n c) n (intL xs)) :
 Calls Tryz.prog 157 #[.slice A n c] w fun e w'=>e=.returned (.tuple #[])∧w'.ownsRow base 3 1 (.slice A n c) n (intL (srtI xs))∧w.grownBy w' (Value.slice A n c).ownBlock:=by
 have hl:xs.length=n:=by have:=h.1;simpa [intL] using this
 rcases h.2 with ⟨hv,h0⟩ | ⟨g,cap,cur,hv,hB,hg,h1,h2,h3,ht⟩
 ·injection hv with e1 e2 e3
  subst e1 e2 e3
  refine (Any.slices_Sort_int_none Tryz.laysSortI none 0 w).mono ?_
  rintro e w' ⟨he,rfl⟩
  have hx:xs=[]:=List.eq_nil_of_length_eq_zero hl
  subst hx
  exact ⟨he,by rw [show srtI []=[] from by simp [srtI]];exact h,⟨rfl,rfl,rfl,Nat.le_refl _,fun _ _ _=>rfl⟩⟩
 ·injection hv with e1 e2 e3
  subst e1 e3
  have ht':cur.toList.take xs.length=xs.map (Value.int .i64):=by rw [hl];simpa [intL] using ht
  have hH:=holds_of_blockI hg ht'
  have hc:=Any.slices_Sort_int Tryz.laysSortI g 0 c xs w hH (Array.getElem?_eq_some_iff.1 hg).1 (by omega)
  rw [hl] at hc
  refine hc.mono ?_
  rintro e w' ⟨he,m,os,rfl⟩
  refine ⟨he,?_,by simpa [Value.ownBlock] using grownBy_sortedI _⟩
  have ho:=ownsRow_sortedI (w:=w) (n:=m) (os:=os) (ss:=xs) (ts:=srtI xs) (srtI_len xs) hB hg (by rw [hl];exact h1) h2 (by simpa using h3)
  rw [hl] at ho
  exact ho
theorem p_CompactI {base n c:Nat} {A:Option Addr} {xs:List Int} (w:World) (hn:n≤1000000) (h:w.ownsRow base 3 1 (.slice A n c) n (intL xs)) :
 Calls Tryz.prog 158 #[.slice A n c] w fun e w'=>e=.returned (.slice A (Lib.compact xs).length c)∧w.grownBy w' (Value.slice A n c).ownBlock:=by
 have hl:xs.length=n:=by have:=h.1;simpa [intL] using this
 rcases h.2 with ⟨hv,h0⟩ | ⟨g,cap,cur,hv,hB,hg,h1,h2,h3,ht⟩
 ·injection hv with e1 e2 e3
  subst e1 e2 e3
  refine (Any.slices_Compact_int_empty Tryz.laysCompactI none 0 w).mono ?_
  rintro e w' ⟨he,rfl⟩
  have hx:xs=[]:=List.eq_nil_of_length_eq_zero hl
  subst hx
  exact ⟨he,⟨rfl,rfl,rfl,Nat.le_refl _,fun _ _ _=>rfl⟩⟩
 ·injection hv with e1 e2 e3
  subst e1 e3
  have ht':cur.toList.take xs.length=xs.map (Value.int .i64):=by rw [hl];simpa [intL] using ht
  have hH:=holds_of_blockI hg ht'
  have hc:=Any.slices_Compact_int Tryz.laysCompactI g 0 c xs w hH (by omega) (by omega)
  rw [hl] at hc
  refine hc.mono ?_
  rintro e w' ⟨he,m,rfl⟩
  refine ⟨he,?_⟩
  have h5:=grownBy_sortedI (w:=w) (g:=g) (n:=m) (os:=#[]) (Lib.compact xs ++ List.replicate (n - (Lib.compact xs).length) 0).toArray
  rw [grow_empty] at h5
  simpa [Value.ownBlock] using h5
end Go.Proofs.YtoiompoapikkbaaGreat
/- Layer 2: areApart of the program. -/
namespace Go.Proofs.YtoiompoapikkbaaGreat
open Go.RowKit
theorem apart_eq (xs:List Int):decide ((Lib.compact (srtI xs)).length=xs.length)=decide xs.Nodup:=by
 have h:=compact_nodup (srtI_pair xs)
 rw [srtI_len] at h
 rw [h,decide_eq_decide]
 exact (srtI_perm xs).nodup_iff
theorem srcL_len {l:Led} {a b c:Nat} (h1:l.rc.length=a) (h2:l.rt.length=b) (h3:l.sg.length=c):(srcL l).length=a+b+c:=by simp [srcL,h1,h2,h3];omega
set_option maxRecDepth 10000 in
set_option maxHeartbeats 4000000 in
theorem p_areApart (l:Led) (x:Lsl) (w:World) (hr:x.rn≤60) (ht:x.tn≤60) (hs:x.sn≤60) (hd:LedIn w w.heap.size x l) :
 Calls Tryz.prog 93 #[.agg #[.slice x.pA x.pn x.pc,.slice x.rA x.rn x.rc,.slice x.tA x.tn x.tc,.slice x.sA x.sn x.sc]] w fun e w'=>e=.returned (.bool (decide (srcL l).Nodup))∧Below w.heap.size w w':=by
 obtain ⟨W1,hW1⟩:∃ W1,w.alloc (.cells #[.slice x.pA x.pn x.pc,.slice x.rA x.rn x.rc,.slice x.tA x.tn x.tc,.slice x.sA x.sn x.sc] 27)=W1:=⟨_,rfl⟩
 have hB1:Below w.heap.size w W1:=by rw [← hW1];exact (Below.refl _ _).alloc (Nat.le_refl _) _
 have hz1:W1.heap.size=w.heap.size+1:=by rw [← hW1];simp
 have b0:W1.cell? ⟨w.heap.size,0,none⟩=some (.slice x.pA x.pn x.pc):=by rw [← hW1];simp
 have b1:W1.cell? ⟨w.heap.size,1,none⟩=some (.slice x.rA x.rn x.rc):=by rw [← hW1];simp
 have b2:W1.cell? ⟨w.heap.size,2,none⟩=some (.slice x.tA x.tn x.tc):=by rw [← hW1];simp
 have b3:W1.cell? ⟨w.heap.size,3,none⟩=some (.slice x.sA x.sn x.sc):=by rw [← hW1];simp
 have HD:=Lib.hid (hd.now hB1)
 have hln:=srcL_len hd.r.len hd.t.len hd.s.len
 obtain ⟨xs,hxs⟩:∃ xs,srcL l=xs:=⟨_,rfl⟩
 have HS:Hid (∀ W:World,LedIn W W.heap.size x l→Calls Tryz.prog 58 #[.agg #[.slice x.pA x.pn x.pc,.slice x.rA x.rn x.rc,.slice x.tA x.tn x.tc,.slice x.sA x.sn x.sc]] W (RetO xs W)):=by
  show ∀ _,_
  intro W h
  rw [← hxs]
  exact p_sources l x W hr ht hs h
 rw [hxs] at hln ⊢
 obtain ⟨n,hn⟩:∃ n,xs.length=n:=⟨_,rfl⟩
 have hn180:n≤180:=by omega
 unfold RetO at HS
 rw [hn] at HS
 have HE:=Lib.hid (apart_eq xs)
 rw [hn] at HE
 obtain ⟨m,hm⟩:∃ m,(Lib.compact (srtI xs)).length=m:=⟨_,rfl⟩
 rw [hm] at HE
 have HM:=Lib.hid hm
 clear hxs hln hd hn hm
 go_enter Tryz.func93,Tryz.ntmps93
 go_wp2_with (go_at_call 58;(first | rw [hW1] | skip);refine (HS.out _ HD.out).mono ?_;rintro e w1 ⟨v1,rfl,hb1,hown1⟩;refine Hid.out ?_)
 refine Lib.hid ?_
 obtain ⟨A,c,rfl,hcc⟩:=own_slice hown1
 have hs1:=hb1.size
 have HP:=Lib.hid (p_SortI (base:=W1.heap.size) w1 (by omega) hown1)
 clear hW1
 go_wp2_with (go_at_call 157;refine HP.out.mono ?_;rintro e w2 ⟨rfl,hown2,hg2⟩;refine Hid.out ?_)
 refine Lib.hid ?_
 have hB2:Below W1.heap.size W1 w2:=hb1.grown hg2 hs1 fun k ek=>own_base hown1 ek
 have hs2:=hB2.size
 obtain ⟨q2,f2⟩:=bcell hB2
 have HO2:=Lib.hid hown2
 have HB2:=Lib.hid hB2
 clear hown1 hown2 hg2 hb1 hB2 HP
 go_wp2_with fail
 have hown3:w2.drew.ownsRow W1.heap.size 3 1 (.slice A n c) n (intL (srtI xs)):=HO2.out
 have HP3:=Lib.hid (p_CompactI (base:=W1.heap.size) w2.drew (by omega) hown3)
 rw [HM.out] at HP3
 go_region_with (first
  | (go_at_call 158;refine HP3.out.mono ?_;rintro e w3 ⟨rfl,hg3⟩;have hB3:Below W1.heap.size W1 w3:=HB2.out.drew.grown hg3 hs2 fun k ek=>own_base hown3 ek;obtain ⟨q3,f3⟩:=bcell hB3)
  | (go_at_call 58;refine (HS.out _ (HD.out.now hB3)).mono ?_;rintro e w4 ⟨v4,rfl,hb4,hown4⟩;obtain ⟨A4,c4,rfl,_⟩:=own_slice hown4))
 all_goals
  go_wp2_with fail
  go_ret
  refine ⟨ret_bool ?_,(hB1.trans (hB3.mono (by omega))).trans (hb4.mono (by have:=hB3.size;omega))⟩
  rw [← HE.out,Bool.eq_iff_iff]
  simp
  try omega
end Go.Proofs.YtoiompoapikkbaaGreat
