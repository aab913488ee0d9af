/- Layer 2 of the texts that LoanBack takes: Balq. -/
import Derived.Test.YtmcmbicapdcfmaaGreatLqp
import Derived.Test.YtmcmbicapdcfmaaGreatBahq
import Derived.Shelf.Slices.CompactI
import Derived.Shelf.Slices.In.SortNone
import Derived.Shelf.Sort.Plain
set_option linter.unusedVariables false
set_option linter.unusedSimpArgs false
set_option maxHeartbeats 16000000
namespace Go.Proofs
open Go.Shelf
end Go.Proofs
namespace Go.Proofs.YtmcmbicapdcfmaaGreat
open Go.RowKit Go.Sort
def srtI (xs:List Int):List Int:=xs.mergeSort fun x y=>decide (x≤y)
theorem srtI_len (xs:List Int):(srtI xs).length=xs.length:=List.length_mergeSort ..
theorem srtI_perm (xs:List Int):(srtI xs).Perm xs:=List.mergeSort_perm ..
theorem srtI_pair (xs:List Int):(srtI xs).Pairwise (·≤·):=by
 have h:=List.pairwise_mergeSort (le:=fun x y:Int=>decide (x≤y)) (fun a b c h1 h2=>by simp at h1 h2 ⊢;omega) (fun a b=>by simp;omega) xs
 exact h.imp fun h=>by simpa using h
theorem adj_nodup {zs:List Int} (hs:zs.Pairwise (·≤·)) (h:∀ j (h1:j+1<zs.length),zs[j+1]≠zs[j]):zs.Nodup:=by
 induction zs with
 | nil=>exact List.nodup_nil
 | cons a l ih =>
   rw [List.nodup_cons]
   rw [List.pairwise_cons] at hs
   have hl:=ih hs.2 fun j h1=>by
    have:=h (j+1) (by simp;omega)
    simpa using this
   refine ⟨fun ha=>?_,hl⟩
   cases l with
   | nil=>simp at ha
   | cons b m =>
     have h0:=h 0 (by simp)
     simp at h0
     have hab:=hs.1 b (by simp)
     rw [List.pairwise_cons] at hs
     rcases List.mem_cons.1 ha with e | hm
     ·exact h0 e.symm
     ·have:=hs.2.1 a hm
      omega
theorem compact_nodup {zs:List Int} (hs:zs.Pairwise (·≤·)):decide ((Lib.compact zs).length=zs.length)=decide zs.Nodup:=by
 rw [decide_eq_decide]
 constructor
 ·intro h
  have hall:∀ j,j<zs.length→Lib.keeps zs.toArray j=true:=by
   have h2:((List.range zs.length).filter (Lib.keeps zs.toArray)).length=(List.range zs.length).length:=by
    have h3:=h
    simp only [Lib.compact,Lib.compactUpTo,List.length_map] at h3
    simpa using h3
   intro j hj
   exact (List.length_filter_eq_length_iff.1 h2) j (List.mem_range.2 hj)
  refine adj_nodup hs fun j h1 e=>?_
  have:=hall (j+1) h1
  rw [Lib.keeps_neg (by omega) (by simp [h1,show j<zs.length by omega,e])] at this
  cases this
 ·intro h
  have hk:∀ j,j<zs.length→Lib.keeps zs.toArray j=true:=fun j hj=>by
   cases j with
   | zero=>exact Lib.keeps_lt_one _ 0 (by omega)
   | succ j =>
     refine Lib.keeps_pos ?_
     simp only [Nat.add_sub_cancel]
     intro e
     have e2:zs[j+1]=zs[j]'(by omega):=by simpa [hj,show j<zs.length by omega] using e
     have:=(List.getElem_inj h).1 e2
     omega
  rw [Lib.compact_all zs hk]
theorem p_SortI {base n c:Nat} {A:Option Addr} {xs:List Int} (w:World) (hn:n≤1000000) (h:w.ownsRow base 3 1 (.slice A n c) n (intL xs)) :
 Calls Tryz.prog 114 #[.slice A n c] w fun e w'=>e=.returned (.tuple #[])∧w'.ownsRow base 3 1 (.slice A n c) n (intL (srtI xs))∧w.grownBy w' (Value.slice A n c).ownBlock:=by
 have hl:xs.length=n:=by have:=h.1;simpa [intL] using this
 rcases h.2 with ⟨hv,h0⟩ | ⟨g,cap,cur,hv,hB,hg,h1,h2,h3,ht⟩
 ·injection hv with e1 e2 e3
  subst e1 e2 e3
  refine (Any.slices_Sort_int_none Tryz.laysSortI none 0 w).mono ?_
  rintro e w' ⟨he,rfl⟩
  have hx:xs=[]:=List.eq_nil_of_length_eq_zero hl
  subst hx
  exact ⟨he,by rw [show srtI []=[] from by simp [srtI]];exact h,⟨rfl,rfl,rfl,lr_,fun _ _ _=>rfl⟩⟩
 ·injection hv with e1 e2 e3
  subst e1 e3
  have ht':cur.toList.take xs.length=xs.map (Value.int .i64):=by rw [hl];simpa [intL] using ht
  have hH:=holds_of_blockI hg ht'
  have hc:=Any.slices_Sort_int Tryz.laysSortI g 0 c xs w hH (Array.getElem?_eq_some_iff.1 hg).1 (by omega)
  rw [hl] at hc
  refine hc.mono ?_
  rintro e w' ⟨he,m,os,rfl⟩
  refine ⟨he,?_,by simpa [Value.ownBlock] using grownBy_sortedI _⟩
  have ho:=ownsRow_sortedI (w:=w) (n:=m) (os:=os) (ss:=xs) (ts:=srtI xs) (srtI_len xs) hB hg (by rw [hl];exact h1) h2 (by simpa using h3)
  rw [hl] at ho
  exact ho
theorem p_CompactI {base n c:Nat} {A:Option Addr} {xs:List Int} (w:World) (hn:n≤1000000) (h:w.ownsRow base 3 1 (.slice A n c) n (intL xs)) :
 Calls Tryz.prog 115 #[.slice A n c] w fun e w'=>e=.returned (.slice A (Lib.compact xs).length c)∧w.grownBy w' (Value.slice A n c).ownBlock:=by
 have hl:xs.length=n:=by have:=h.1;simpa [intL] using this
 rcases h.2 with ⟨hv,h0⟩ | ⟨g,cap,cur,hv,hB,hg,h1,h2,h3,ht⟩
 ·injection hv with e1 e2 e3
  subst e1 e2 e3
  refine (Any.slices_Compact_int_empty Tryz.laysCompactI none 0 w).mono ?_
  rintro e w' ⟨he,rfl⟩
  have hx:xs=[]:=List.eq_nil_of_length_eq_zero hl
  subst hx
  exact ⟨he,⟨rfl,rfl,rfl,lr_,fun _ _ _=>rfl⟩⟩
 ·injection hv with e1 e2 e3
  subst e1 e3
  have ht':cur.toList.take xs.length=xs.map (Value.int .i64):=by rw [hl];simpa [intL] using ht
  have hH:=holds_of_blockI hg ht'
  have hc:=Any.slices_Compact_int Tryz.laysCompactI g 0 c xs w hH (by omega) (by omega)
  rw [hl] at hc
  refine hc.mono ?_
  rintro e w' ⟨he,m,rfl⟩
  refine ⟨he,?_⟩
  have h5:=grownBy_sortedI (w:=w) (g:=g) (n:=m) (os:=#[]) (Lib.compact xs ++ List.replicate (n - (Lib.compact xs).length) 0).toArray
  rw [grow_empty] at h5
  simpa [Value.ownBlock] using h5
end Go.Proofs.YtmcmbicapdcfmaaGreat
namespace Go.Proofs.YtmcmbicapdcfmaaGreat
open Go.RowKit
theorem apart_eq (xs:List Int):decide ((Lib.compact (srtI xs)).length=xs.length)=decide xs.Nodup:=by
 have h:=compact_nodup (srtI_pair xs)
 rw [srtI_len] at h
 rw [h,decide_eq_decide]
 exact (srtI_perm xs).nodup_iff
theorem srcL_len {l:Led} {a b c:Nat} (h1:l.rc.length=a) (h2:l.rt.length=b) (h3:l.sg.length=c):(srcL l).length=a+b+c:=by simp [srcL,h1,h2,h3];omega
set_option maxRecDepth 10000 in
theorem p_areApart (l:Led) (x:Lsl) (w:World) (hr:x.rn≤60) (ht:x.tn≤60) (hs:x.sn≤60) (hd:LedIn w w.heap.size x l) :
 Calls Tryz.prog 56 #[.agg #[.slice x.pA x.pn x.pc,.slice x.rA x.rn x.rc,.slice x.tA x.tn x.tc,.slice x.sA x.sn x.sc]] w fun e w'=>e=.returned (.bool (decide (srcL l).Nodup))∧Below w.heap.size w w':=by
 obtain ⟨W1,hW1⟩:∃ W1,w.alloc (.cells #[.slice x.pA x.pn x.pc,.slice x.rA x.rn x.rc,.slice x.tA x.tn x.tc,.slice x.sA x.sn x.sc] 32)=W1:=⟨_,rfl⟩
 have hB1:Below w.heap.size w W1:=by rw [← hW1];exact (Below.refl _ _).alloc lr_ _
 have hz1:W1.heap.size=w.heap.size+1:=by rw [← hW1];simp
 have b0:W1.cell? ⟨w.heap.size,0,none⟩=some (.slice x.pA x.pn x.pc):=by rw [← hW1];simp
 have b1:W1.cell? ⟨w.heap.size,1,none⟩=some (.slice x.rA x.rn x.rc):=by rw [← hW1];simp
 have b2:W1.cell? ⟨w.heap.size,2,none⟩=some (.slice x.tA x.tn x.tc):=by rw [← hW1];simp
 have b3:W1.cell? ⟨w.heap.size,3,none⟩=some (.slice x.sA x.sn x.sc):=by rw [← hW1];simp
 have HD:=hd_ (hd.now hB1)
 have hln:=srcL_len hd.r.len hd.t.len hd.s.len
 obtain ⟨xs,hxs⟩:∃ xs,srcL l=xs:=⟨_,rfl⟩
 have HS:Hid (∀ W:World,LedIn W W.heap.size x l→Calls Tryz.prog 88 #[.agg #[.slice x.pA x.pn x.pc,.slice x.rA x.rn x.rc,.slice x.tA x.tn x.tc,.slice x.sA x.sn x.sc]] W (RetO xs W)):=by
  show ∀ _,_
  intro W h
  rw [← hxs]
  exact p_sources l x W hr ht hs h
 rw [hxs] at hln ⊢
 obtain ⟨n,hn⟩:∃ n,xs.length=n:=⟨_,rfl⟩
 have hn180:n≤180:=by omega
 unfold RetO at HS
 rw [hn] at HS
 have HE:=hd_ (apart_eq xs)
 rw [hn] at HE
 obtain ⟨m,hm⟩:∃ m,(Lib.compact (srtI xs)).length=m:=⟨_,rfl⟩
 rw [hm] at HE
 have HM:=hd_ hm
 clear hxs hln hd hn hm
 go_enter Tryz.func56,Tryz.ntmps56
 go_wp2_with (go_at_call 88;(first | rw [hW1] | skip);refine (HS.out _ HD.out).mono ?_;rintro e w1 ⟨v1,rfl,hb1,hown1⟩;refine Hid.out ?_)
 refine hd_ ?_
 obtain ⟨A,c,rfl,hcc⟩:=own_slice hown1
 have hs1:=hb1.size
 have HP:=hd_ (p_SortI (base:=W1.heap.size) w1 (by omega) hown1)
 clear hW1
 go_wp2_with (go_at_call 114;refine HP.out.mono ?_;rintro e w2 ⟨rfl,hown2,hg2⟩;refine Hid.out ?_)
 refine hd_ ?_
 have hB2:Below W1.heap.size W1 w2:=hb1.grown hg2 hs1 fun k ek=>own_base hown1 ek
 have hs2:=hB2.size
 obtain ⟨q2,f2⟩:=bcell hB2
 have HO2:=hd_ hown2
 have HB2:=hd_ hB2
 clear hown1 hown2 hg2 hb1 hB2 HP
 go_wp2_with fail
 have hown3:w2.drew.ownsRow W1.heap.size 3 1 (.slice A n c) n (intL (srtI xs)):=HO2.out
 have HP3:=hd_ (p_CompactI (base:=W1.heap.size) w2.drew (by omega) hown3)
 rw [HM.out] at HP3
 go_region_with (first
  | (go_at_call 115;refine HP3.out.mono ?_;rintro e w3 ⟨rfl,hg3⟩;have hB3:Below W1.heap.size W1 w3:=HB2.out.drew.grown hg3 hs2 fun k ek=>own_base hown3 ek;obtain ⟨q3,f3⟩:=bcell hB3)
  | (go_at_call 88;refine (HS.out _ (HD.out.now hB3)).mono ?_;rintro e w4 ⟨v4,rfl,hb4,hown4⟩;obtain ⟨A4,c4,rfl,_⟩:=own_slice hown4))
 all_goals
  go_wp2_with fail
  go_ret
  refine ⟨ret_bool ?_,(hB1.trans (hB3.mono (by omega))).trans (hb4.mono (by have:=hB3.size;omega))⟩
  rw [← HE.out,Bool.eq_iff_iff]
  simp
  try omega
end Go.Proofs.YtmcmbicapdcfmaaGreat
