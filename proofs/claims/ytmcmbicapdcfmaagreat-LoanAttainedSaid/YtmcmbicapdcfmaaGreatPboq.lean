/- Layer 2 of the texts that the statements over histories take: Pboq. -/
import Derived.Test.YtmcmbicapdcfmaaGreatPbnq
import Derived.Test.YtmcmbicapdcfmaaGreatLqp
set_option linter.unusedVariables false
set_option linter.unusedSimpArgs false
set_option maxHeartbeats 16000000
namespace Go.Proofs.YtmcmbicapdcfmaaGreat
open Go.RowKit Go.Maps
theorem r_last_v (l:Led) (v:Vw) (pap leaf day k:Int) (w:World) (hn:v.x.rn≤1000000) (hd:LedIn w w.heap.size v.x l) (h:lastI (lastK v.kn pap leaf day l.rc l.rc.length)=k) :
 Calls Tryz.prog 104 #[vwV v,.agg #[.int .i64 pap,.int .i64 leaf],.int .i64 day] w fun e w'=>e=.returned (.int .i64 k)∧Below w.heap.size w w':=h ▸ r_last l v pap leaf day w hn hd
theorem cd_no {l:Led} {kn:Int} {bs:List Int} (hv:preE l [kn]=0) (h:∀ a b,bs=[a,b]→a<b→False):cdE l kn bs=28:=by
 unfold cdE
 rw [if_pos hv]
 split
 ·rename_i a b
  rw [if_neg (fun hlt=>h a b rfl hlt)]
 ·rfl
end Go.Proofs.YtmcmbicapdcfmaaGreat
namespace Go.Proofs.YtmcmbicapdcfmaaGreat
open Go.RowKit Go.Shelf Go.Proofs
theorem zeroCellsS (cs:Array Value) (n:Nat):(Builtin.zeroCells cs n).size=n*cs.size:=by
 unfold Builtin.zeroCells
 simp [Nat.mul_comm]
theorem below_al_drew (w:World) (o:Obj):Below w.heap.size w (w.drew.alloc o):=(Below.refl w.heap.size w).drew.alloc lr_ _
theorem p_GrowNilS (n:Nat) (w:World) (hn:n≤1000) :
 Calls Tryz.prog 128 #[.slice none 0 0,.int .i64 n] w fun e w'=>∃ v,e=.returned v∧w'.ownsRow w.heap.size 70 7 v 0 []∧Below w.heap.size w w':=by
 obtain ⟨i0,hi,hz0,hz1,hz2⟩:=info_parts infoSight
 rcases Nat.eq_zero_or_pos n with rfl | hpos
 ·refine (Any8.slices_Grow_room Tryz.growS none 0 0 0 w (by omega) (by omega) (by omega) (by omega)).mono ?_
  rintro e w' ⟨rfl,rfl⟩
  exact ⟨_,rfl,World.ownsRow_nil _ _ _ _,Below.refl _ _⟩
 ·refine (Any8.slices_Grow_grow Tryz.growS i0 _ hi hz0 (by rw [hz1];omega) none 0 0 n [] w (by omega) (by omega) (by rw [hz2];omega) (by omega) (by simp) (fun _=>rfl) (fun a h=>by cases h)).mono ?_
  rintro e w' ⟨rfl,rfl⟩
  have hg:=grownCap_ge w (0+n) 0 70
  have hm:=grownCap_le_maxLen w (0+n) 0 70 (by unfold maxLen;omega)
  refine ⟨_,rfl,⟨rfl,.inr ⟨w.heap.size,_,_,rfl,lr_,World.alloc_heap_new w.drew _,Nat.zero_le _,hm,?_,by simp⟩⟩,below_al_drew _ _⟩
  have hz:(Value.agg #[.int .i64 0,.int .i64 0,.int .i64 0,.int .i64 0,.int .i64 0,.int .i64 0,.int .i64 0]).cells.size=7:=rfl
  change _=grownCap w (0+n) 0 70*7
  simp only [Array.size_append,zeroCellsS,hz,List.size_toArray,List.length_nil]
  change 0+n≤grownCap w (0+n) 0 70 at hg
  change 0+(0+n - 0)*7+(grownCap w (0+n) 0 70 - (0+n))*7=grownCap w (0+n) 0 70*7
  generalize grownCap w (0+n) 0 70=G at hg ⊢
  omega
theorem sg_news {w:World} {B n p q:Nat} {xs:List Sgt} (h:Rd w B 7 (some ⟨p,q,none⟩) n (xs.flatMap sgC)):∀ j u,(xs.flatMap sgC)[j]?=some u→w.cell? ((⟨p,q,none⟩:Addr).add j)=some u:=by
 intro j u hj
 have hl:=h.1
 rcases Nat.eq_zero_or_pos n with rfl | hpos
 ·rw [List.getElem?_eq_none (by omega)] at hj
  cases hj
 ·obtain ⟨b,o,e,_,h2⟩:=h.2 hpos
  cases e
  rw [Addr.add_lit]
  exact h2 j u hj
theorem sg_ones (xs:List Sgt):∀ u∈xs.flatMap sgC,u.oneCell'=true:=by
 intro u hu
 obtain ⟨d,-,h⟩:=List.mem_flatMap.1 hu
 simp only [List.mem_cons,List.not_mem_nil,or_false] at h
 rcases h with rfl | rfl | rfl | rfl | rfl | rfl | rfl <;> rfl
theorem sg_flen (xs:List Sgt):(xs.flatMap sgC).length=xs.length*7:=flat_len sgC 7 (fun _=>rfl) xs
theorem p_ConcatS (xs ys:List Sgt) (b p q s t n m c d:Nat) (w:World) (hn:n≤100) (hm:m≤100) (hx:Sgs w w.heap.size (some ⟨p,q,none⟩) n xs) (hy:Sgs w w.heap.size (some ⟨s,t,none⟩) m ys)
 (f0:w.cell? ⟨b,0,none⟩=some (.slice (some ⟨p,q,none⟩) n c)) (f1:w.cell? ⟨b,1,none⟩=some (.slice (some ⟨s,t,none⟩) m d)) (hb:b<w.heap.size) :
 Calls Tryz.prog 86 #[.slice (some ⟨b,0,none⟩) 2 2] w (fun e w'=>∃ A c,e=.returned (.slice A (n+m) c)∧Below w.heap.size w w'∧Sgs w' w'.heap.size A (n+m) (xs ++ ys)):=by
 obtain ⟨i0,hi,hz0,hz1,hz2⟩:=info_parts infoSight
 have HX:=hd_ (rd_sg hx)
 have HY:=hd_ (rd_sg hy)
 have HLX:=hd_ hx.len
 have HLY:=hd_ hy.len
 clear hx hy
 go_enter Tryz.func86,Tryz.ntmps86
 go_wp2
 go_loop [3,11] (fun z i=>∃ k:Nat,k≤2∧i=.int .i64 k∧z=.int .i64 ((if k=0 then 0 else if k=1 then n else n+m:Nat):Int)) (fun _ i=>2 - (intOf i).toNat)
 case atStart=>exact ⟨0,by omega,rfl,rfl⟩
 case round =>
  obtain ⟨k,hk,rfl,rfl⟩:=hrel
  have hcs:k=0∨k=1∨k=2:=by omega
  rcases hcs with rfl | rfl | rfl
  ·simp only [if_true]
   have hlt:decide ((n:Int)<0)=false:=by simp
   go_wp2
   go_round
   case rel=>exact ⟨1,by omega,by go_num,by simp⟩
   case measure=>simp [intOf]
  ·simp only [show ¬ (1=0) from by omega,if_false,if_true]
   have hlt:decide ((n:Int)+(m:Int)<0)=false:=by simp;omega
   go_wp2
   go_round
   case rel=>exact ⟨2,by omega,by go_num,by simp⟩
   case measure=>simp [intOf]
  ·simp only [show ¬ (2=0) from by omega,show ¬ (2=1) from by omega,if_false]
   go_wp2_with fail
   refine (p_GrowNilS (n+m) _ (by omega)).mono ?_
   rintro e w1 ⟨v,rfl,hown,hb1⟩
   have HO:=hd_ hown
   obtain ⟨A0,c0,rfl,hcc⟩:=own_slice hown
   clear hown
   go_wp2
   go_loopw [6,27] (fun v i wr=>∃ k:Nat,k≤2∧i=.int .i64 k∧wr.ownsRow w.heap.size 70 7 v (if k=0 then 0 else if k=1 then n else n+m:Nat) (if k=0 then [] else if k=1 then xs.flatMap sgC else xs.flatMap sgC ++ ys.flatMap sgC)∧Below w.heap.size w wr) (fun _ i _=>2 - (intOf i).toNat)
   case atStart=>exact ⟨0,by omega,rfl,HO.out,hb1⟩
   case round =>
    obtain ⟨k,hk,rfl,hown,hB⟩:=hrel
    have hs:=hB.size
    have g0:=(hB.cell (p:=⟨b,0,none⟩) hb).trans f0
    have g1:=(hB.cell (p:=⟨b,1,none⟩) hb).trans f1
    have HB:=hd_ hB
    have HXc:=hd_ (Rd.ext HX.out hB lr_)
    have HYc:=hd_ (Rd.ext HY.out hB lr_)
    clear hB f0 f1
    have hcs:k=0∨k=1∨k=2:=by omega
    rcases hcs with rfl | rfl | rfl
    ·simp only [if_true] at hown
     have HO2:=hd_ hown
     go_wp2_with (at_builtin;refine wpList_append_own _ rfl (.tmp 31) (.tmp 32) 30 rfl w.heap.size 70 i0 _ 7 56 Tryz.underlying30 hi hz0 hz1 hz2 rfl (by decide) _ _ _ rfl hown ⟨p,q,none⟩ n c (xs.flatMap sgC) rfl (by rw [sg_flen,HLX.out]) (sg_news HXc.out) (sg_ones _) ?c3 ?c4 ?c5 ?_;rotate_left 3;intro v' w2 hown2 hgrow2 _)
     case c3=>unfold maxLen;omega
     case c4=>omega
     case c5=>omega
     go_roundw
     case rel=>exact ⟨1,by omega,by go_num,by simpa using hown2,HB.out.grown hgrow2 hs fun b e=>own_le HO2.out e⟩
     case measure=>simp [intOf]
    ·simp only [show ¬ (1=0) from by omega,if_false,if_true] at hown
     have HO2:=hd_ hown
     go_wp2_with (at_builtin;refine wpList_append_own _ rfl (.tmp 31) (.tmp 32) 30 rfl w.heap.size 70 i0 _ 7 56 Tryz.underlying30 hi hz0 hz1 hz2 rfl (by decide) _ _ _ rfl hown ⟨s,t,none⟩ m d (ys.flatMap sgC) rfl (by rw [sg_flen,HLY.out]) (sg_news HYc.out) (sg_ones _) ?c3 ?c4 ?c5 ?_;rotate_left 3;intro v' w2 hown2 hgrow2 _)
     case c3=>unfold maxLen;omega
     case c4=>omega
     case c5=>omega
     go_roundw
     case rel=>exact ⟨2,by omega,by go_num,by simpa using hown2,HB.out.grown hgrow2 hs fun b e=>own_le HO2.out e⟩
     case measure=>simp [intOf]
    ·simp only [show ¬ (2=0) from by omega,show ¬ (2=1) from by omega,if_false] at hown
     obtain ⟨A1,c1,hv,hcc⟩:=own_slice hown
     subst hv
     go_wp2
     go_ret
     have hl:(xs ++ ys).length=n+m:=by rw [List.length_append,HLX.out,HLY.out]
     refine ⟨A1,c1,rfl,HB.out,sq_sg ?_ hl⟩
     have hr:=Rd.of_own hown
     rw [← List.flatMap_append] at hr
     exact hr
end Go.Proofs.YtmcmbicapdcfmaaGreat
namespace Go.Proofs.YtmcmbicapdcfmaaGreat
open Go.RowKit Go.Maps
def attX (l:Led) (src kn:Int) (last:Bool):List Int × Int:=if retE l src kn=0 then (match l.rt.findIdx? (fun t=>t.src == src) with
 | none=>((setP l kn).map Prod.fst,0)
 | some i=>(if last=true then ((setP l kn).map Prod.fst).set i ((setP l kn).getD i (0,0)).2 else (setP l kn).map Prod.fst,0)) else ([],retE l src kn)
def attK (P:List (Int × Int)) (n k:Nat):List Int:=(P.take k).map Prod.fst ++ List.replicate (n - k) 0
theorem attK_len {P:List (Int × Int)} {n k:Nat} (hP:P.length=n) (hk:k≤n):(attK P n k).length=n:=by simp [attK];omega
theorem attK_all {P:List (Int × Int)} {n:Nat} (hP:P.length=n):attK P n n=P.map Prod.fst:=by rw [attK,Nat.sub_self,← hP,List.take_length];simp
theorem attK_succ {P:List (Int × Int)} {n k:Nat} {d:Int × Int} (hd:P[k]?=some d) (hP:P.length=n):attK P n (k+1)=(attK P n k).set k d.1:=by
 have hk:k<n:=by rw [← hP];exact (List.getElem?_eq_some_iff.1 hd).1
 unfold attK
 obtain ⟨e,he⟩:∃ e,n - k=e+1:=⟨n - k - 1,by omega⟩
 rw [he,show n - (k+1)=e from by omega,take_snoc_some hd,List.map_append,List.replicate_succ,List.set_append_right _ _ (by simp;omega)]
 have h0:k - ((P.take k).map Prod.fst).length=0:=by simp;omega
 rw [h0]
 simp
theorem BoxA.ext5 {W W':World} {B B':Nat} {t:TypeId} {cs:Array Value} (h:BoxA W B t cs) (hb:Below B' W W') (hB:B<B'):BoxA W' B t cs:=(hb.block B hB).trans h
set_option maxRecDepth 10000 in
theorem p_Attain (l:Led) (x:Lsl) (src kn:Int) (last:Bool) (w:World) (hf:x.fit) (hd:LedIn w w.heap.size x l) :
 Calls Tryz.prog 27 #[.agg #[.slice x.pA x.pn x.pc,.slice x.rA x.rn x.rc,.slice x.tA x.tn x.tc,.slice x.sA x.sn x.sc],.int .i64 src,.int .i64 kn,.bool last] w (RetLE (attX l src kn last) w):=by
 obtain ⟨pA,pn,pc,rA,rn,rc,tA,tn,tc,sA,sn,sc⟩:=x
 have HD:=hd_ hd
 obtain ⟨v,hv⟩:∃ v,retE l src kn=v:=⟨_,rfl⟩
 by_cases hv0:v=0
 ·subst hv0
  have hlb:ledB l=true:=by
   unfold retE at hv
   split at hv
   ·rename_i h;exact (pre_zero h).1
   ·rename_i h;exact absurd hv h
  have ht60:=(led_ok hlb).tn
  have HC:Hid (∀ W:World,Below w.heap.size w W→Calls Tryz.prog 79 #[.agg #[.slice pA pn pc,.slice rA rn rc,.slice tA tn tc,.slice sA sn sc],.int .i64 src,.int .i64 kn] W (RetRet l src kn ⟨pA,pn,pc,rA,rn,rc,tA,tn,tc,sA,sn,sc⟩ W)):=by
   show ∀ _,_
   exact fun W hW=>p_returned0 l ⟨pA,pn,pc,rA,rn,rc,tA,tn,tc,sA,sn,sc⟩ src kn W hf (HD.out.now hW) hv
  cases last with
  | false =>
    have hres2:∀ i,l.rt.findIdx? (fun t=>t.src == src)=some i→(attX l src kn false).1=(setP l kn).map Prod.fst:=fun i h=>by simp only [attX,if_pos hv,h];rfl
    have hres:(attX l src kn false).2=0:=by
     rw [attX,if_pos hv]
     split <;> rfl
    show Calls _ _ _ _ (RetLE ((attX l src kn false).1,(attX l src kn false).2) w)
    rw [hres]
    clear hres hv hd hf
    go_enter Tryz.func27,Tryz.ntmps27
    go_wp2_with (go_at_call 79;refine (HC.out _ (by exact bel_)).mono ?_;rintro e w5 ⟨RA,Rn,Rc,SA,Sn,Sc,bm,TA,Tn,Tc,PA,Pn,Pc,i,rfl,hb5,hsq,hpn,hfi,htb⟩;have HB5:Below w.heap.size w w5:=bt_ (by exact bel_) hb5;have hs5:=HB5.size;have HSQ:=hd_ hsq;have HPN:=hd_ hpn;have HFI:=hd_ hfi;have hp6:Pn≤1000000:=(by rw [hpn];omega);have hmi:=make_int Pn hp6;clear hsq hpn hfi htb hb5)
    have HBA:Hid (BoxA (w5.alloc (.cells #[.slice pA pn pc,.slice rA rn rc,.slice tA tn tc,.slice sA sn sc,.int .i64 kn,.slice RA Rn Rc,.slice SA Sn Sc,.map (some bm),.slice TA Tn Tc,.slice PA Pn Pc] 115)) w5.heap.size 115 #[.slice pA pn pc,.slice rA rn rc,.slice tA tn tc,.slice sA sn sc,.int .i64 kn,.slice RA Rn Rc,.slice SA Sn Sc,.map (some bm),.slice TA Tn Tc,.slice PA Pn Pc]):=by show BoxA _ _ _ _;exact BoxA.new _ _ _
    have HWA:Below w5.heap.size w5 (w5.alloc (.cells #[.slice pA pn pc,.slice rA rn rc,.slice tA tn tc,.slice sA sn sc,.int .i64 kn,.slice RA Rn Rc,.slice SA Sn Sc,.map (some bm),.slice TA Tn Tc,.slice PA Pn Pc] 115)):=by exact bel_
    obtain ⟨wa,hwa⟩:∃ wa,w5.alloc (.cells #[.slice pA pn pc,.slice rA rn rc,.slice tA tn tc,.slice sA sn sc,.int .i64 kn,.slice RA Rn Rc,.slice SA Sn Sc,.map (some bm),.slice TA Tn Tc,.slice PA Pn Pc] 115)=wa:=⟨_,rfl⟩
    have hwe:wa.heap.size=w5.heap.size+1:=by rw [← hwa];simp
    have HWE:=hd_ hwe
    have hwl1:wa.heap.size≤w5.heap.size+1:=Nat.le_of_eq hwe
    clear hwe
    rw [hwa] at HBA HWA
    have hs5a:=HWA.size
    have HW5:Below w.heap.size w wa:=HB5.trans (HWA.mono hs5)
    have hsa:=HW5.size
    (try rw [hwa])
    clear hwa hmi
    have HPL:Hid ((setP l kn).length=Pn):=by show _=_;exact HSQ.out.len
    go_loopw [34] (fun i wr=>∃ k:Nat,k≤Pn∧i=.int .i64 k∧Below wa.heap.size wa wr∧BoxA wr (w5.heap.size+1) 3 (intL (attK (setP l kn) Pn k)).toArray) (fun i _=>Pn - (intOf i).toNat)
    case atStart=>exact ⟨0,by omega,rfl,by exact bel_,by have h:=BoxA.new wa 3 (intL (attK (setP l kn) Pn 0)).toArray;rw [HWE.out] at h;exact h⟩
    case round =>
     obtain ⟨k,hk,rfl,hQ,hI⟩:=hrel
     have hQ5:Below w5.heap.size w5 wr:=HWA.trans (hQ.mono hs5a)
     have hsq:=hQ.size
     have hs5r:=hQ5.size
     have bA:=HBA.out.ext5 hQ (show w5.heap.size<wa.heap.size from HBA.out.lt)
     have kA:=bA.cell
     have zA:=bA.lt
     have kI:=hI.cell
     have zI:=hI.lt
     have fI:=hI.frozen
     have HI:=hd_ hI
     clear hI bA
     by_cases hlt:k<Pn
     ·obtain ⟨b,o,d,rfl,hb,hdk,q0,q1⟩:=HSQ.out.at_ hlt
      have e0:=(hQ5.cell (p:=⟨b,o+k*2,none⟩) hb).trans q0
      have e1:=(hQ5.cell (p:=⟨b,o+k*2+1,none⟩) hb).trans q1
      have hbr:b<wr.heap.size:=by omega
      have HS:Hid ((attK (setP l kn) Pn k).set k d.1=attK (setP l kn) Pn (k+1)):=by show _=_;exact (attK_succ hdk HPL.out).symm
      have hkl:k<(intL (attK (setP l kn) Pn k)).toArray.size:=by simp [intL,attK_len HPL.out hk];exact hlt
      obtain ⟨u,hku⟩:∃ u,(intL (attK (setP l kn) Pn k))[k]?=some u:=⟨_,List.getElem?_eq_getElem (by simpa using hkl)⟩
      clear q0 q1 hdk kA zA
      go_wp2_with fail
      go_roundw
      case rel=>exact ⟨k+1,by omega,by go_num,by exact bel_,by rw [← HS.out];exact (HI.out.setI k d.1).alloc _⟩
      case measure=>exact ms_
     ·obtain rfl:k=Pn:=by omega
      have HAL:Hid (attK (setP l kn) k k=(setP l kn).map Prod.fst):=by show _=_;exact attK_all HPL.out
      have hBw:Below w.heap.size w wr:=HW5.trans (hQ.mono hsa)
      clear kA zA kI zI fI
      go_wp2_with fail
      go_ret2
      have h:=HI.out
      rw [HAL.out] at h
      exact ⟨_,_,_,rfl,hBw,by rw [hres2 i HFI.out];exact is_box h (by simp [HPL.out]),lr_,by unfold maxLen;omega⟩
  | true =>
    have hres2:∀ i,l.rt.findIdx? (fun t=>t.src == src)=some i→(attX l src kn true).1=((setP l kn).map Prod.fst).set i ((setP l kn).getD i (0,0)).2:=fun i h=>by simp only [attX,if_pos hv,h];rfl
    have hres:(attX l src kn true).2=0:=by
     rw [attX,if_pos hv]
     split <;> rfl
    show Calls _ _ _ _ (RetLE ((attX l src kn true).1,(attX l src kn true).2) w)
    rw [hres]
    clear hres hv hd hf
    go_enter Tryz.func27,Tryz.ntmps27
    go_wp2_with (go_at_call 79;refine (HC.out _ (by exact bel_)).mono ?_;rintro e w5 ⟨RA,Rn,Rc,SA,Sn,Sc,bm,TA,Tn,Tc,PA,Pn,Pc,i,rfl,hb5,hsq,hpn,hfi,htb⟩;have HB5:Below w.heap.size w w5:=bt_ (by exact bel_) hb5;have hs5:=HB5.size;have HSQ:=hd_ hsq;have HPN:=hd_ hpn;have HFI:=hd_ hfi;have hp6:Pn≤1000000:=(by rw [hpn];omega);have hmi:=make_int Pn hp6;clear hsq hpn hfi htb hb5)
    have HBA:Hid (BoxA (w5.alloc (.cells #[.slice pA pn pc,.slice rA rn rc,.slice tA tn tc,.slice sA sn sc,.int .i64 kn,.slice RA Rn Rc,.slice SA Sn Sc,.map (some bm),.slice TA Tn Tc,.slice PA Pn Pc] 115)) w5.heap.size 115 #[.slice pA pn pc,.slice rA rn rc,.slice tA tn tc,.slice sA sn sc,.int .i64 kn,.slice RA Rn Rc,.slice SA Sn Sc,.map (some bm),.slice TA Tn Tc,.slice PA Pn Pc]):=by show BoxA _ _ _ _;exact BoxA.new _ _ _
    have HWA:Below w5.heap.size w5 (w5.alloc (.cells #[.slice pA pn pc,.slice rA rn rc,.slice tA tn tc,.slice sA sn sc,.int .i64 kn,.slice RA Rn Rc,.slice SA Sn Sc,.map (some bm),.slice TA Tn Tc,.slice PA Pn Pc] 115)):=by exact bel_
    obtain ⟨wa,hwa⟩:∃ wa,w5.alloc (.cells #[.slice pA pn pc,.slice rA rn rc,.slice tA tn tc,.slice sA sn sc,.int .i64 kn,.slice RA Rn Rc,.slice SA Sn Sc,.map (some bm),.slice TA Tn Tc,.slice PA Pn Pc] 115)=wa:=⟨_,rfl⟩
    have hwe:wa.heap.size=w5.heap.size+1:=by rw [← hwa];simp
    have HWE:=hd_ hwe
    have hwl1:wa.heap.size≤w5.heap.size+1:=Nat.le_of_eq hwe
    clear hwe
    rw [hwa] at HBA HWA
    have hs5a:=HWA.size
    have HW5:Below w.heap.size w wa:=HB5.trans (HWA.mono hs5)
    have hsa:=HW5.size
    (try rw [hwa])
    clear hwa hmi
    have HPL:Hid ((setP l kn).length=Pn):=by show _=_;exact HSQ.out.len
    go_loopw [34] (fun i wr=>∃ k:Nat,k≤Pn∧i=.int .i64 k∧Below wa.heap.size wa wr∧BoxA wr (w5.heap.size+1) 3 (intL (attK (setP l kn) Pn k)).toArray) (fun i _=>Pn - (intOf i).toNat)
    case atStart=>exact ⟨0,by omega,rfl,by exact bel_,by have h:=BoxA.new wa 3 (intL (attK (setP l kn) Pn 0)).toArray;rw [HWE.out] at h;exact h⟩
    case round =>
     obtain ⟨k,hk,rfl,hQ,hI⟩:=hrel
     have hQ5:Below w5.heap.size w5 wr:=HWA.trans (hQ.mono hs5a)
     have hsq:=hQ.size
     have hs5r:=hQ5.size
     have bA:=HBA.out.ext5 hQ (show w5.heap.size<wa.heap.size from HBA.out.lt)
     have kA:=bA.cell
     have zA:=bA.lt
     have kI:=hI.cell
     have zI:=hI.lt
     have fI:=hI.frozen
     have HI:=hd_ hI
     clear hI bA
     by_cases hlt:k<Pn
     ·obtain ⟨b,o,d,rfl,hb,hdk,q0,q1⟩:=HSQ.out.at_ hlt
      have e0:=(hQ5.cell (p:=⟨b,o+k*2,none⟩) hb).trans q0
      have e1:=(hQ5.cell (p:=⟨b,o+k*2+1,none⟩) hb).trans q1
      have hbr:b<wr.heap.size:=by omega
      have HS:Hid ((attK (setP l kn) Pn k).set k d.1=attK (setP l kn) Pn (k+1)):=by show _=_;exact (attK_succ hdk HPL.out).symm
      have hkl:k<(intL (attK (setP l kn) Pn k)).toArray.size:=by simp [intL,attK_len HPL.out hk];exact hlt
      obtain ⟨u,hku⟩:∃ u,(intL (attK (setP l kn) Pn k))[k]?=some u:=⟨_,List.getElem?_eq_getElem (by simpa using hkl)⟩
      clear q0 q1 hdk kA zA
      go_wp2_with fail
      go_roundw
      case rel=>exact ⟨k+1,by omega,by go_num,by exact bel_,by rw [← HS.out];exact (HI.out.setI k d.1).alloc _⟩
      case measure=>exact ms_
     ·obtain rfl:k=Pn:=by omega
      have HAL:Hid (attK (setP l kn) k k=(setP l kn).map Prod.fst):=by show _=_;exact attK_all HPL.out
      have hBw:Below w.heap.size w wr:=HW5.trans (hQ.mono hsa)
      have hil:i<k:=by rw [HPN.out];exact (List.findIdx?_eq_some_iff_getElem.1 HFI.out).1
      obtain ⟨b,o,d,rfl,hb,hdi,q0,q1⟩:=HSQ.out.at_ hil
      have e0:=(hQ5.cell (p:=⟨b,o+i*2,none⟩) hb).trans q0
      have e1:=(hQ5.cell (p:=⟨b,o+i*2+1,none⟩) hb).trans q1
      have hbr:b<wr.heap.size:=by omega
      have hval:(setP l kn).getD i (0,0)=d:=by rw [List.getD_eq_getElem?_getD,hdi];rfl
      have HVAL:=hd_ hval
      obtain ⟨u,hku⟩:∃ u,(intL (attK (setP l kn) k k))[i]?=some u:=⟨_,List.getElem?_eq_getElem (by simp [intL,attK_len HPL.out lr_];exact hil)⟩
      clear q0 q1 hdi hval
      go_wp2_with fail
      go_ret2
      have h:=HI.out.setI i d.2
      rw [HAL.out] at h
      exact ⟨_,_,_,rfl,by have:=hBw;exact bel_,by rw [hres2 i HFI.out,HVAL.out];exact is_box h (by simp [HPL.out]),lr_,by unfold maxLen;omega⟩
 ·have HC:Hid (∀ W:World,Below w.heap.size w W→Calls Tryz.prog 79 #[.agg #[.slice pA pn pc,.slice rA rn rc,.slice tA tn tc,.slice sA sn sc],.int .i64 src,.int .i64 kn] W fun e w'=>e=.returned (.tuple #[.agg #[.slice none 0 0,.slice none 0 0,.slice none 0 0,.slice none 0 0,.int .i64 0,.slice none 0 0,.slice none 0 0,.map none,.slice none 0 0,.slice none 0 0],.int .i64 0,.int .i64 v])∧Below W.heap.size W w'):=by
   show ∀ _,_
   exact fun W hW=>p_returnedN l ⟨pA,pn,pc,rA,rn,rc,tA,tn,tc,sA,sn,sc⟩ src kn v W hf (HD.out.now hW) hv hv0
  have hres:attX l src kn last=([],v):=by rw [attX,if_neg (by rw [hv];exact hv0),hv]
  rw [hres]
  have hvd:(v != 0)=true:=by simpa using hv0
  clear hres hv hv0 hd hf
  go_enter Tryz.func27,Tryz.ntmps27
  go_wp2_with (go_at_call 79;refine (HC.out _ (by exact bel_)).mono ?_;rintro e w5 ⟨rfl,hb5⟩;have HB5:Below w.heap.size w w5:=bt_ (by exact bel_) hb5;have hs5:=HB5.size)
  go_ret2
  exact RetLE.err (by exact bel_)
theorem setP_len {l:Led} (h:ledB l=true) {kn:Int} (hs:setE l kn=0):(setP l kn).length=l.rt.length:=by
 rw [set_ref h] at hs
 cases ho:firstP (refD l (tellK l kn l.rt.length) kn) l.rc with
 | some q=>rw [ho] at hs;simp at hs
 | none =>
   cases hR:(refL l (tellK l kn l.rt.length) kn (cntS l kn) (byL l kn)).2 with
   | false=>rw [ho,hR] at hs;simp at hs
   | true=>rw [setP_ref h kn hR,refL_len,byL_len]
theorem zip_true {L:List Int} {P:List (Int × Int)} (h:∀ (j:Nat) (y:Int) (d:Int × Int),L[j]?=some y→P[j]?=some d→d.1≤y∧y≤d.2):trueD L P=true:=by
 rw [trueD,List.all_eq_true]
 intro x hx
 obtain ⟨j,hj⟩:=List.getElem?_of_mem hx
 rw [List.getElem?_zip_eq_some] at hj
 obtain ⟨h1,h2⟩:=h j x.1 x.2 hj.1 hj.2
 simp [withinB,h1,h2]
theorem att_ok {l:Led} {src kn:Int} (h:retE l src kn=0):∃ i d,l.rt.findIdx? (fun t=>t.src == src)=some i∧daysX l src kn=(d,0)∧∀ last,∃ L,attX l src kn last=(L,0)∧checkTrueX l kn L=0∧L[i]?=some (if last=true then d.2 else d.1):=by
 have h0:=h
 unfold retE at h
 split at h
 ·rename_i hp
  have hl:=(pre_zero hp).1
  split at h
  ·cases h
  ·rename_i i hi
   split at h
   ·have hil:i<l.rt.length:=(List.findIdx?_eq_some_iff_getElem.1 hi).1
    have hlen:=setP_len hl h
    obtain ⟨d,hd⟩:∃ d,(setP l kn)[i]?=some d:=⟨_,List.getElem?_eq_getElem (by omega)⟩
    have hgd:(setP l kn).getD i (0,0)=d:=by rw [List.getD_eq_getElem?_getD,hd];rfl
    have hpos:=setP_pos hl h
    refine ⟨i,d,hi,by rw [daysX,if_pos h0,hi,Option.getD_some,hgd],fun last=>?_⟩
    have hck:∀ L:List Int,L.length=l.rt.length→trueD L (setP l kn)=true→checkTrueX l kn L=0:=fun L h1 h2=>by
     rw [checkTrueX,if_pos hp,trueE,if_pos ⟨h1,h⟩,h2];rfl
    cases last with
    | false =>
      refine ⟨(setP l kn).map Prod.fst,by simp only [attX,if_pos h0,hi];rfl,hck _ (by simp [hlen]) (zip_true fun j y e hy he=>?_),by rw [List.getElem?_map,hd];rfl⟩
      rw [List.getElem?_map,he] at hy
      cases hy
      exact ⟨Int.le_refl _,hpos j e he⟩
    | true =>
      refine ⟨((setP l kn).map Prod.fst).set i d.2,by simp only [attX,if_pos h0,hi,hgd];rfl,hck _ (by simp [hlen]) (zip_true fun j y e hy he=>?_),by rw [List.getElem?_set_self (by simp;omega)];rfl⟩
      by_cases hij:i=j
      ·subst hij
       rw [List.getElem?_set_self (by simp;omega)] at hy
       cases hy
       obtain rfl:d=e:=Option.some.inj (hd.symm.trans he)
       exact ⟨hpos i d hd,Int.le_refl _⟩
      ·rw [List.getElem?_set_ne hij,List.getElem?_map,he] at hy
       cases hy
       exact ⟨Int.le_refl _,hpos j e he⟩
   ·cases h
 ·rename_i hp
  exact absurd h hp
theorem ret_led {l:Led} {src kn:Int} (h:retE l src kn=0):ledB l=true:=by
 unfold retE at h
 split at h
 ·rename_i hp;exact (pre_zero hp).1
 ·rename_i hp;exact absurd h hp
theorem att_len {l:Led} {src kn:Int} {last:Bool} {L:List Int} (h0:retE l src kn=0) (h:attX l src kn last=(L,0)):L.length≤60:=by
 have hl:=ret_led h0
 have h60:=(led_ok hl).tn
 have hs:setE l kn=0:=by
  have h1:=h0
  unfold retE at h1
  split at h1
  ·split at h1
   ·cases h1
   ·split at h1
    ·exact h1
    ·cases h1
  ·rename_i hp;exact absurd h1 hp
 have hlen:=setP_len hl hs
 rw [attX,if_pos h0] at h
 split at h
 ·cases h;rw [List.length_map];omega
 ·cases h
  split
  ·rw [List.length_set,List.length_map];omega
  ·rw [List.length_map];omega
set_option maxRecDepth 10000 in
theorem w_index (l:Led) (x:Lsl) (src:Int) (w:World) (hn:x.tn≤1000000) (hd:LedIn w w.heap.size x l) :
 Calls Tryz.prog 26 #[.agg #[.slice x.pA x.pn x.pc,.slice x.rA x.rn x.rc,.slice x.tA x.tn x.tc,.slice x.sA x.sn x.sc],.int .i64 src] w fun e w'=>e=.returned (.int .i64 (ixI (l.rt.findIdx? (fun t=>t.src == src))))∧Below w.heap.size w w':=by
 obtain ⟨pA,pn,pc,rA,rn,rc,tA,tn,tc,sA,sn,sc⟩:=x
 show Calls _ _ #[.agg #[.slice pA pn pc,.slice rA rn rc,.slice tA tn tc,.slice sA sn sc],_] _ _
 have HT:Hid (Rts w w.heap.size tA tn l.rt):=by show Sq _ _ _ _ _ _ _;exact hd.t
 have HL:Hid (l.rt.length=tn):=by show _=_;exact hd.t.len
 have htn:tn≤1000000:=hn
 clear hd hn
 obtain ⟨q,hq⟩:∃ q,l.rt.findIdx? (fun t=>t.src == src)=q:=⟨_,rfl⟩
 rw [hq]
 have HQ:=hd_ hq
 clear hq
 go_enter Tryz.func26,Tryz.ntmps26
 go_wp2
 go_loopw [5] (fun i wr=>∃ k:Nat,k≤tn∧i=.int .i64 k∧(l.rt.take k).any (fun t=>t.src == src)=false∧Below w.heap.size w wr∧BoxA wr w.heap.size 32 #[.slice pA pn pc,.slice rA rn rc,.slice tA tn tc,.slice sA sn sc]) (fun i _=>tn - (intOf i).toNat)
 case atStart=>exact ⟨0,by omega,rfl,rfl,by exact bel_,BoxA.new _ _ _⟩
 case round =>
  obtain ⟨k,hk,rfl,hany,hB,hbx⟩:=hrel
  have HA:=hd_ hany
  have HBX:=hd_ hbx
  have hs0:=hB.size
  have kx:=hbx.cell
  have zx:=hbx.lt
  clear hany hbx
  by_cases hlt:k<tn
  ·obtain ⟨b,o,t,rfl,hb,hx,A2,n2,c2,⟨h0,-,-,-,-,-,-,-⟩,-,-,-⟩:=(HT.out.now abT hB).at_ hlt
   cases hs:(t.src == src) with
   | false =>
     have HN:Hid ((l.rt.take (k+1)).any (fun t=>t.src == src)=false):=by show _=_;rw [any_take_succ2 hx,HA.out,hs];rfl
     clear hx
     go_wp2
     go_roundw
     case rel=>exact ⟨k+1,by omega,by go_num,HN.out,hB,HBX.out⟩
     case measure=>exact ms_
   | true =>
     have HN:Hid (q=some k):=by show _=_;rw [← HQ.out];exact ix_found hx hs HA.out
     clear hx
     go_wp2
     go_ret
     rw [HN.out]
     exact ⟨rfl,hB⟩
  ·obtain rfl:k=tn:=by omega
   have HN:Hid (q=none):=by
    show _=_
    rw [← HQ.out]
    refine ix_none ?_
    have h:=HA.out
    rwa [List.take_of_length_le (by rw [HL.out];exact lr_)] at h
   go_wp2
   go_ret
   rw [HN.out]
   exact ⟨rfl,hB⟩
end Go.Proofs.YtmcmbicapdcfmaaGreat
namespace Go.Proofs.YtmcmbicapdcfmaaGreat
open Go.RowKit Go.Maps Go.Shelf
end Go.Proofs.YtmcmbicapdcfmaaGreat
namespace Go.Proofs.YtmcmbicapdcfmaaGreat
open Go.ChangeShapes Go.WideShapes Go.ChangeAt Go.RowKit Go.Deep Go.Joins Go.Maps
section
variable {H:Type} {enc:TypeId × Value→H} {w:World} {base:Nat} {spare:Nat→Bool} {held:Bool} {fuel:Nat} {cs:List Value} {x:DataW H × List MemPlace}
end
section
variable {H:Type} {enc:TypeId × Value→H} {w:World} {base:Nat} {spare:Nat→Bool} {held:Bool} {r:Reach} {b0:Nat} {v:Value} {d:DataW H} {p:List MemPlace}
end
end Go.Proofs.YtmcmbicapdcfmaaGreat
