/- Layer 2 of the texts that the statements over histories take: Pbjq. -/
import Derived.Test.YtmcmbicapdcfmaaGreatPbcq
set_option linter.unusedVariables false
set_option linter.unusedSimpArgs false
set_option maxHeartbeats 16000000
namespace Go.Proofs.YtmcmbicapdcfmaaGreat
open Go.RowKit Go.Maps
theorem at_Sgt {w wr:World} {B n:Nat} {A:Option Addr} {xs:List (Sgt)} (h:Rd w B 7 A n (xs.flatMap sgC)) (hn:xs.length=n) (hb:Below w.heap.size w wr) (hB:B≤w.heap.size) {k:Nat} (hk:k<n) :
 ∃ b o x,A=some ⟨b,o,none⟩∧b<B∧xs[k]?=some x∧wr.cell? ⟨b,o+k*7,none⟩=some (.int .i64 x.src)∧wr.cell? ⟨b,o+k*7+1,none⟩=some (.int .i64 x.per)∧wr.cell? ⟨b,o+k*7+2,none⟩=some (.int .i64 x.pap)∧wr.cell? ⟨b,o+k*7+3,none⟩=some (.int .i64 x.leaf)∧wr.cell? ⟨b,o+k*7+4,none⟩=some (.int .i64 x.day)∧wr.cell? ⟨b,o+k*7+5,none⟩=some (.int .i64 x.kn)∧wr.cell? ⟨b,o+k*7+6,none⟩=some (.int .i64 x.un):=by
 obtain ⟨b,o,e,hbB,hc⟩:=h.2 (by omega)
 obtain ⟨x,hx⟩:∃ x,xs[k]?=some x:=⟨_,List.getElem?_eq_getElem (by omega)⟩
 have g:∀ j u,j<7→(sgC x)[j]?=some u→wr.cell? ⟨b,o+k*7+j,none⟩=some u:=fun j u hj hu=>by
  have:=hc (k*7+j) u (by rw [← hu];exact flat_get sgC 7 (fun _=>rfl) xs k j x hx hj)
  rw [← Nat.add_assoc] at this
  exact (hb.cell (p:=⟨b,_,none⟩) (show b<w.heap.size by omega)).trans this
 exact ⟨b,o,x,e,hbB,hx,g 0 _ (by omega) rfl,g 1 _ (by omega) rfl,g 2 _ (by omega) rfl,g 3 _ (by omega) rfl,g 4 _ (by omega) rfl,g 5 _ (by omega) rfl,g 6 _ (by omega) rfl⟩
set_option maxRecDepth 10000 in
theorem l_ixSgt (xs:List (Sgt)) (p:Sgt→Bool) (q0:Nat) (A:Option Addr) (n c:Nat) (w:World) (hn:n≤1000000) (hxn:xs.length=n) (h:Rd w w.heap.size 7 A n (xs.flatMap sgC))
 (hp:∀ W,Below w.heap.size w W→∀ x∈xs,Calls Tryz.prog 142 #[.agg (sgC x).toArray,.pointer (some ⟨q0,0,none⟩)] W fun e w'=>e=.returned (.bool (p x))∧Below W.heap.size W w') :
 Calls Tryz.prog 159 #[.slice A n c,.func (.func 142) #[] #[.pointer (some ⟨q0,0,none⟩)]] w fun e w'=>e=.returned (.int .i64 (ixI (xs.findIdx? p)))∧Below w.heap.size w w':=by
 have HD:=hd_ h
 have HP:=hd_ hp
 have HXN:=hd_ hxn
 obtain ⟨q,hq⟩:∃ q,xs.findIdx? p=q:=⟨_,rfl⟩
 rw [hq]
 have HQ:=hd_ hq
 clear h hp hq hxn
 go_enter Tryz.func159,Tryz.ntmps159
 go_wp2
 go_loopw [8] (fun i wr=>∃ k:Nat,k≤n∧i=.int .i64 k∧(xs.take k).any p=false∧Below w.heap.size w wr) (fun i _=>n - (intOf i).toNat)
 case atStart=>exact ⟨0,by omega,rfl,rfl,Below.refl _ _⟩
 case round =>
  obtain ⟨k,hk,rfl,hany,hB⟩:=hrel
  have HA:=hd_ hany
  clear hany
  have hs0:w.heap.size≤wr.heap.size:=hB.size
  by_cases hlt:k<n
  ·obtain ⟨b,o,x,rfl,hb,hx,a0,a1,a2,a3,a4,a5,a6⟩:=at_Sgt HD.out HXN.out hB lr_ hlt
   have hbr:b<wr.heap.size:=by omega
   have HX:=hd_ hx
   have hcall:=HP.out wr hB x (List.mem_of_getElem? hx)
   clear hx
   cases hpx:p x with
   | true =>
     rw [hpx] at hcall
     have ho:q=some k:=by rw [← HQ.out];exact ix_found HX.out hpx HA.out
     subst ho
     clear hpx
     go_wp2_with (go_at_call 142;refine hcall.mono ?_;rintro e w1 ⟨rfl,hb1⟩)
     go_ret
     exact ⟨rfl,bt_ hB hb1⟩
   | false =>
     rw [hpx] at hcall
     have HF:Hid ((xs.take (k+1)).any p=false):=by show _=_;rw [any_take_succ2 HX.out,HA.out,hpx];rfl
     clear hpx
     go_wp2_with (go_at_call 142;refine hcall.mono ?_;rintro e w1 ⟨rfl,hb1⟩)
     go_roundw
     case rel=>exact ⟨k+1,by omega,by go_num,HF.out,bt_ hB hb1⟩
     case measure=>exact ms_
  ·have hkn:Hid (k=n):=by show _=_;omega
   have ho:q=none:=by
    have:=HA.out
    rw [List.take_of_length_le (by rw [HXN.out,hkn.out];exact lr_)] at this
    rw [← HQ.out]
    exact ix_none this
   subst ho
   go_wp2
   go_ret
   exact ⟨rfl,hB⟩
set_option maxRecDepth 10000 in
theorem l_deleteSgt (xs:List (Sgt)) (p:Sgt→Bool) (q0 base:Nat) (v:Value) (n:Nat) (w:World) (hn:n≤1000000) (hxn:xs.length=n) (ho:w.ownsRow base 70 7 v n (xs.flatMap sgC)) (hbase:base≤w.heap.size)
 (hp:∀ W,w.grownBy W v.ownBlock→∀ x∈xs,Calls Tryz.prog 142 #[.agg (sgC x).toArray,.pointer (some ⟨q0,0,none⟩)] W fun e w'=>e=.returned (.bool (p x))∧Below W.heap.size W w') :
 Calls Tryz.prog 141 #[v,.func (.func 142) #[] #[.pointer (some ⟨q0,0,none⟩)]] w (RetDel 70 7 base v (xs.filter fun x=>!p x).length ((xs.filter fun x=>!p x).flatMap sgC) w):=by
 obtain ⟨A,c,rfl,hcc⟩:=own_slice ho
 have hIF:=l_ixSgt xs p q0 A n c w hn hxn (Rd.of_own ho) (fun W hW=>hp W (grown_wk (grown_of_below hW) _))
 cases hf:xs.findIdx? p with
 | none =>
   rw [hf] at hIF
   have hfl:=find_filter hf
   rw [hfl,hxn]
   have HO:=hd_ ho
   clear hf hfl hp ho
   go_enter Tryz.func141,Tryz.ntmps141
   go_wp2_with (go_at_call 159;refine hIF.mono ?_;rintro e w1 ⟨rfl,hb1⟩)
   go_ret
   exact ⟨_,rfl,own_ex HO.out hb1,grown_wk (grown_of_below hb1) _,rfl⟩
 | some k0 =>
   rw [hf] at hIF
   simp only [ixI] at hIF
   have hk0:k0<n:=by rw [← hxn];exact (List.findIdx?_eq_some_iff_getElem.1 hf).1
   have hne:((k0:Int) == -1)=false:=beq_eq_false_iff_ne.2 (by omega)
   rcases ho.2 with ⟨_,h0⟩ | ⟨g,cap,cur0,hv,hbg,hh0,hnc,hcm,hsz,htk⟩
   ·omega
   obtain ⟨rfl,rfl⟩:A=some ⟨g,0,none⟩∧c=cap:=by injection hv with e1 _ e3;exact ⟨e1,e3⟩
   clear hv
   have HZ:=hd_ hsz
   have hns:n*7≤cur0.size:=by have:=Nat.mul_le_mul_right 7 hnc;omega
   have hcell:∀ m,m<xs.length*7→cur0[m]?=(xs.flatMap sgC)[m]?:=fun m hm=>by
    rw [← htk,List.getElem?_take,if_pos (by rw [← hxn];exact hm),Array.getElem?_toList]
   have HST:=hd_ (DelC.start (f:=sgC) (s:=7) (fun _=>rfl) hf hcell)
   have HP:Hid (∀ W,w.grownBy W (some g)→∀ x∈xs,Calls Tryz.prog 142 #[.agg (sgC x).toArray,.pointer (some ⟨q0,0,none⟩)] W fun e w'=>e=.returned (.bool (p x))∧Below W.heap.size W w'):=by show ∀ _,_;exact hp
   have HXN:=hd_ hxn
   have HH0:=hd_ hh0
   have hgs:g<w.heap.size:=block_lt hh0
   have hzc:∀ w,(zeroValue 70).run Tryz.prog w=.ok (.agg #[.int .i64 0,.int .i64 0,.int .i64 0,.int .i64 0,.int .i64 0,.int .i64 0,.int .i64 0]) w:=fun w=>by kernel_rfl
   clear hp hf htk hsz hcell hh0 ho
   go_enter Tryz.func141,Tryz.ntmps141
   go_wp2_with (go_at_call 159;refine hIF.mono ?_;rintro e w1 ⟨rfl,hb1⟩)
   go_loopw [5,6] (fun si sj wr=>∃ (i j:Nat) (cur:Array Value),i<j∧j≤n∧si=.int .i64 i∧sj=.int .i64 j∧wr.heap[g]?=some (.cells cur 70 (0,0))∧DelC sgC 7 xs (fun x=>!p x) cur0 i j cur∧w.grownBy wr (some g)) (fun _ sj _=>n - (intOf sj).toNat)
   case atStart=>exact ⟨k0,k0+1,cur0,by omega,by omega,rfl,by go_num,(hb1.block g hgs).trans HH0.out,HST.out,grown_wk (grown_of_below hb1) _⟩
   case round =>
    obtain ⟨i,j,cur,hij,hjn,rfl,rfl,hh,hD,hG⟩:=hrel
    have hce:∀ m,wr.cell? ⟨g,m,none⟩=cur[m]?:=fun m=>by simp [World.cell?,hh]
    have hfz:∀ m,wr.frozen? ⟨g,m,none⟩=false:=fun m=>by simp [World.frozen?,hh]
    have hgr:g<wr.heap.size:=block_lt hh
    have HH:=hd_ hh
    have HD:=hd_ hD
    have HG:=hd_ hG
    have hcs:cur.size=cur0.size:=hD.size
    by_cases hlt:j<n
    ·obtain ⟨x,hx⟩:∃ x,xs[j]?=some x:=⟨_,List.getElem?_eq_getElem (by rw [HXN.out];exact hlt)⟩
     have HX:=hd_ hx
     have hjs:(j+1)*7≤n*7:=Nat.mul_le_mul_right 7 hlt
     have gx:∀ m u,m<7→(sgC x)[m]?=some u→wr.cell? ⟨g,j*7+m,none⟩=some u:=fun m u hm hu=>by
      rw [hce,HD.out.high _ (by omega) (by rw [HXN.out];omega),← hu]
      exact flat_get sgC 7 (fun _=>rfl) xs j m x HX.out hm
     have a0:=gx 0 _ (by omega) rfl;have a1:=gx 1 _ (by omega) rfl;have a2:=gx 2 _ (by omega) rfl;have a3:=gx 3 _ (by omega) rfl;have a4:=gx 4 _ (by omega) rfl;have a5:=gx 5 _ (by omega) rfl;have a6:=gx 6 _ (by omega) rfl
     have gi:∀ m,m<7→∃ u,wr.cell? ⟨g,i*7+m,none⟩=some u:=fun m hm=>by
      rw [hce]
      exact ⟨_,Array.getElem?_eq_getElem (show i*7+m<cur.size by have:(i+1)*7≤j*7:=Nat.mul_le_mul_right 7 hij;omega)⟩
     obtain ⟨u0,b0⟩:=gi 0 (by omega);obtain ⟨u1,b1⟩:=gi 1 (by omega);obtain ⟨u2,b2⟩:=gi 2 (by omega);obtain ⟨u3,b3⟩:=gi 3 (by omega);obtain ⟨u4,b4⟩:=gi 4 (by omega);obtain ⟨u5,b5⟩:=gi 5 (by omega);obtain ⟨u6,b6⟩:=gi 6 (by omega)
     simp only [Nat.add_zero] at a0 b0
     have hcall:=HP.out (wr.alloc (.cells (sgC x).toArray 70)) (HG.out.trans (grown_alloc wr _ (some g))) x (List.mem_of_getElem? hx)
     clear hx gx gi hh hD hG hce
     cases hpx:p x with
     | true =>
       rw [hpx] at hcall
       have HDS:=hd_ (HD.out.skip HX.out (show (fun x=>!p x) x=false by simp [hpx]))
       clear hpx
       go_wp2_with (go_at_call 142;refine hcall.mono ?_;rintro e w2 ⟨rfl,hb2⟩)
       go_roundw
       case rel =>
        exact ⟨i,j+1,cur,by omega,by omega,rfl,by go_num,(hb2.block g (by simp;omega)).trans ((Below.heap_alloc _ _ _ hgr).trans HH.out),HDS.out,(HG.out.trans (grown_alloc wr _ (some g))).trans (grown_wk (grown_of_below hb2) _)⟩
       case measure=>exact ms_
     | false =>
       rw [hpx] at hcall
       have HKP:=hd_ hpx
       clear hpx
       have hall:∀ w2,Below (wr.alloc (.cells (sgC x).toArray 70)).heap.size (wr.alloc (.cells (sgC x).toArray 70)) w2→w2.heap[g]?=some (.cells cur 70 (0,0))∧w.grownBy w2 (some g)∧BoxA w2 wr.heap.size 70 (sgC x).toArray∧w2.cell? ⟨g,i*7,none⟩=some u0∧w2.cell? ⟨g,i*7+1,none⟩=some u1∧w2.cell? ⟨g,i*7+2,none⟩=some u2∧w2.cell? ⟨g,i*7+3,none⟩=some u3∧w2.cell? ⟨g,i*7+4,none⟩=some u4∧w2.cell? ⟨g,i*7+5,none⟩=some u5∧w2.cell? ⟨g,i*7+6,none⟩=some u6:=fun w2 hb2=>by
        have hge:g<(wr.alloc (.cells (sgC x).toArray 70)).heap.size:=by simp;omega
        exact ⟨(hb2.block g hge).trans ((Below.heap_alloc _ _ _ hgr).trans HH.out),(HG.out.trans (grown_alloc wr (.cells (sgC x).toArray 70) (some g))).trans (grown_wk (grown_of_below hb2) (some g)),(BoxA.new wr 70 (sgC x).toArray).ext hb2,(hb2.cell (p:=⟨g,_,none⟩) hge).trans ((((Below.refl wr.heap.size wr).alloc lr_ (.cells (sgC x).toArray 70)).cell (p:=⟨g,_,none⟩) hgr).trans b0),(hb2.cell (p:=⟨g,_,none⟩) hge).trans ((((Below.refl wr.heap.size wr).alloc lr_ (.cells (sgC x).toArray 70)).cell (p:=⟨g,_,none⟩) hgr).trans b1),(hb2.cell (p:=⟨g,_,none⟩) hge).trans ((((Below.refl wr.heap.size wr).alloc lr_ (.cells (sgC x).toArray 70)).cell (p:=⟨g,_,none⟩) hgr).trans b2),(hb2.cell (p:=⟨g,_,none⟩) hge).trans ((((Below.refl wr.heap.size wr).alloc lr_ (.cells (sgC x).toArray 70)).cell (p:=⟨g,_,none⟩) hgr).trans b3),(hb2.cell (p:=⟨g,_,none⟩) hge).trans ((((Below.refl wr.heap.size wr).alloc lr_ (.cells (sgC x).toArray 70)).cell (p:=⟨g,_,none⟩) hgr).trans b4),(hb2.cell (p:=⟨g,_,none⟩) hge).trans ((((Below.refl wr.heap.size wr).alloc lr_ (.cells (sgC x).toArray 70)).cell (p:=⟨g,_,none⟩) hgr).trans b5),(hb2.cell (p:=⟨g,_,none⟩) hge).trans ((((Below.refl wr.heap.size wr).alloc lr_ (.cells (sgC x).toArray 70)).cell (p:=⟨g,_,none⟩) hgr).trans b6)⟩
       have HALL:=hd_ hall
       clear hall
       go_wp2_with (go_at_call 142;refine hcall.mono ?_;rintro e w2 ⟨rfl,hb2⟩;obtain ⟨hh2,hG2,bV,c0,c1,c2,c3,c4,c5,c6⟩:=HALL.out w2 hb2;have kV:=bV.cell;have zV:=bV.lt;have fz2:∀ m,w2.frozen? ⟨g,m,none⟩=false:=(fun m=>by simp [World.frozen?,hh2]);have HH2:=hd_ hh2;have HG2:=hd_ hG2;clear hh2 hG2)
       go_roundw
       case rel =>
        obtain ⟨cur',h1,h2,h3⟩:=block_setCells (sgC x) (i*7) w2 cur HH2.out
        exact ⟨i+1,j+1,cur',by omega,by omega,by go_num,by go_num,h1,DelC.take (f:=sgC) (s:=7) (fun _=>rfl) HD.out (by omega) HX.out (by simp [HKP.out]) h2 h3 (by rw [HXN.out];exact hns),HG2.out.trans (grown_setCells g (sgC x) (i*7) w2)⟩
       case measure=>exact ms_
    ·have hjn2:j=n:=by omega
     subst hjn2
     have hcz:(.agg #[.int .i64 0,.int .i64 0,.int .i64 0,.int .i64 0,.int .i64 0,.int .i64 0,.int .i64 0]:Value).cells.size=7:=rfl
     have hZ:=HZ.out
     have hij2:i*7+(j - i)*7=j*7:=by omega
     have hcl:∀ ty,(Builtin.clear_ #[30] ty #[.slice (some ⟨g,i*7,none⟩) (j - i) (c - i)]).run Tryz.prog wr=.ok (.tuple #[]) (wr.setCells g (i*7) (Builtin.zeroCells (.agg #[.int .i64 0,.int .i64 0,.int .i64 0,.int .i64 0,.int .i64 0,.int .i64 0,.int .i64 0]:Value).cells (j - i)).toList):=fun ty =>
      run_clear_k wr 30 70 ty _ Tryz.underlying30 hzc (by decide) (by simp [Value.cells,Value.oneCell']) g (i*7) (j - i) (c - i) (by omega)
       (fun m hm=>by rw [hcz] at hm;rw [hce,Array.getElem?_eq_getElem (show i*7+m<cur.size by omega)];rfl) (fun m hm=>hfz _)
     obtain ⟨cur',h1,h2,h3⟩:=block_setCells (Builtin.zeroCells (.agg #[.int .i64 0,.int .i64 0,.int .i64 0,.int .i64 0,.int .i64 0,.int .i64 0,.int .i64 0]:Value).cells (j - i)).toList (i*7) wr cur HH.out
     have hfin:xs.take j=xs:=List.take_of_length_le (by rw [HXN.out];exact lr_)
     have hlow:=HD.out.low
     have hcnt:=HD.out.cnt
     rw [hfin] at hlow hcnt
     have hown:=own_of_getK (w:=wr.setCells g (i*7) (Builtin.zeroCells (.agg #[.int .i64 0,.int .i64 0,.int .i64 0,.int .i64 0,.int .i64 0,.int .i64 0,.int .i64 0]:Value).cells (j - i)).toList) (base:=base) (g:=g) (cap:=c) (n:=i) (s:=7) (e:=70) (cur:=cur') (xs:=(xs.filter fun x=>!p x).flatMap sgC) hbg h1 (by omega) hcm (by omega) (by rw [flat_len sgC 7 (fun _=>rfl),hcnt]) (fun m hm=>by
      rw [h3 m (by omega),if_neg (by omega)]
      exact hlow m hm)
     have HOW:=hd_ hown
     have HCN:=hd_ hcnt
     clear h1 h2 h3 hfin hlow hcnt hown hce hcz hij2
     go_wp2
     go_ret
     refine ⟨_,rfl,?_,HG.out.trans (grown_setCells g _ (i*7) wr),rfl⟩
     rw [HCN.out]
     exact HOW.out
theorem at_Fol {w wr:World} {B n:Nat} {A:Option Addr} {xs:List (Int × Int)} (h:Rd w B 2 A n (xs.flatMap foC)) (hn:xs.length=n) (hb:Below w.heap.size w wr) (hB:B≤w.heap.size) {k:Nat} (hk:k<n) :
 ∃ b o x,A=some ⟨b,o,none⟩∧b<B∧xs[k]?=some x∧wr.cell? ⟨b,o+k*2,none⟩=some (.int .i64 x.1)∧wr.cell? ⟨b,o+k*2+1,none⟩=some (.int .i64 x.2):=by
 obtain ⟨b,o,e,hbB,hc⟩:=h.2 (by omega)
 obtain ⟨x,hx⟩:∃ x,xs[k]?=some x:=⟨_,List.getElem?_eq_getElem (by omega)⟩
 have g:∀ j u,j<2→(foC x)[j]?=some u→wr.cell? ⟨b,o+k*2+j,none⟩=some u:=fun j u hj hu=>by
  have:=hc (k*2+j) u (by rw [← hu];exact flat_get foC 2 (fun _=>rfl) xs k j x hx hj)
  rw [← Nat.add_assoc] at this
  exact (hb.cell (p:=⟨b,_,none⟩) (show b<w.heap.size by omega)).trans this
 exact ⟨b,o,x,e,hbB,hx,g 0 _ (by omega) rfl,g 1 _ (by omega) rfl⟩
set_option maxRecDepth 10000 in
theorem l_ixFol (xs:List (Int × Int)) (p:Int × Int→Bool) (q0 q1 q2:Nat) (A:Option Addr) (n c:Nat) (w:World) (hn:n≤1000000) (hxn:xs.length=n) (h:Rd w w.heap.size 2 A n (xs.flatMap foC))
 (hp:∀ W,Below w.heap.size w W→∀ x∈xs,Calls Tryz.prog 98 #[.agg (foC x).toArray,.pointer (some ⟨q0,0,none⟩),.pointer (some ⟨q1,0,none⟩),.pointer (some ⟨q2,0,none⟩)] W fun e w'=>e=.returned (.bool (p x))∧Below W.heap.size W w') :
 Calls Tryz.prog 116 #[.slice A n c,.func (.func 98) #[] #[.pointer (some ⟨q0,0,none⟩),.pointer (some ⟨q1,0,none⟩),.pointer (some ⟨q2,0,none⟩)]] w fun e w'=>e=.returned (.int .i64 (ixI (xs.findIdx? p)))∧Below w.heap.size w w':=by
 have HD:=hd_ h
 have HP:=hd_ hp
 have HXN:=hd_ hxn
 obtain ⟨q,hq⟩:∃ q,xs.findIdx? p=q:=⟨_,rfl⟩
 rw [hq]
 have HQ:=hd_ hq
 clear h hp hq hxn
 go_enter Tryz.func116,Tryz.ntmps116
 go_wp2
 go_loopw [8] (fun i wr=>∃ k:Nat,k≤n∧i=.int .i64 k∧(xs.take k).any p=false∧Below w.heap.size w wr) (fun i _=>n - (intOf i).toNat)
 case atStart=>exact ⟨0,by omega,rfl,rfl,Below.refl _ _⟩
 case round =>
  obtain ⟨k,hk,rfl,hany,hB⟩:=hrel
  have HA:=hd_ hany
  clear hany
  have hs0:w.heap.size≤wr.heap.size:=hB.size
  by_cases hlt:k<n
  ·obtain ⟨b,o,x,rfl,hb,hx,a0,a1⟩:=at_Fol HD.out HXN.out hB lr_ hlt
   have hbr:b<wr.heap.size:=by omega
   have HX:=hd_ hx
   have hcall:=HP.out wr hB x (List.mem_of_getElem? hx)
   clear hx
   cases hpx:p x with
   | true =>
     rw [hpx] at hcall
     have ho:q=some k:=by rw [← HQ.out];exact ix_found HX.out hpx HA.out
     subst ho
     clear hpx
     go_wp2_with (go_at_call 98;refine hcall.mono ?_;rintro e w1 ⟨rfl,hb1⟩)
     go_ret
     exact ⟨rfl,bt_ hB hb1⟩
   | false =>
     rw [hpx] at hcall
     have HF:Hid ((xs.take (k+1)).any p=false):=by show _=_;rw [any_take_succ2 HX.out,HA.out,hpx];rfl
     clear hpx
     go_wp2_with (go_at_call 98;refine hcall.mono ?_;rintro e w1 ⟨rfl,hb1⟩)
     go_roundw
     case rel=>exact ⟨k+1,by omega,by go_num,HF.out,bt_ hB hb1⟩
     case measure=>exact ms_
  ·have hkn:Hid (k=n):=by show _=_;omega
   have ho:q=none:=by
    have:=HA.out
    rw [List.take_of_length_le (by rw [HXN.out,hkn.out];exact lr_)] at this
    rw [← HQ.out]
    exact ix_none this
   subst ho
   go_wp2
   go_ret
   exact ⟨rfl,hB⟩
set_option maxRecDepth 10000 in
theorem l_deleteFol (xs:List (Int × Int)) (p:Int × Int→Bool) (q0 q1 q2 base:Nat) (v:Value) (n:Nat) (w:World) (hn:n≤1000000) (hxn:xs.length=n) (ho:w.ownsRow base 48 2 v n (xs.flatMap foC)) (hbase:base≤w.heap.size)
 (hp:∀ W,w.grownBy W v.ownBlock→∀ x∈xs,Calls Tryz.prog 98 #[.agg (foC x).toArray,.pointer (some ⟨q0,0,none⟩),.pointer (some ⟨q1,0,none⟩),.pointer (some ⟨q2,0,none⟩)] W fun e w'=>e=.returned (.bool (p x))∧Below W.heap.size W w') :
 Calls Tryz.prog 97 #[v,.func (.func 98) #[] #[.pointer (some ⟨q0,0,none⟩),.pointer (some ⟨q1,0,none⟩),.pointer (some ⟨q2,0,none⟩)]] w (RetDel 48 2 base v (xs.filter fun x=>!p x).length ((xs.filter fun x=>!p x).flatMap foC) w):=by
 obtain ⟨A,c,rfl,hcc⟩:=own_slice ho
 have hIF:=l_ixFol xs p q0 q1 q2 A n c w hn hxn (Rd.of_own ho) (fun W hW=>hp W (grown_wk (grown_of_below hW) _))
 cases hf:xs.findIdx? p with
 | none =>
   rw [hf] at hIF
   have hfl:=find_filter hf
   rw [hfl,hxn]
   have HO:=hd_ ho
   clear hf hfl hp ho
   go_enter Tryz.func97,Tryz.ntmps97
   go_wp2_with (go_at_call 116;refine hIF.mono ?_;rintro e w1 ⟨rfl,hb1⟩)
   go_ret
   exact ⟨_,rfl,own_ex HO.out hb1,grown_wk (grown_of_below hb1) _,rfl⟩
 | some k0 =>
   rw [hf] at hIF
   simp only [ixI] at hIF
   have hk0:k0<n:=by rw [← hxn];exact (List.findIdx?_eq_some_iff_getElem.1 hf).1
   have hne:((k0:Int) == -1)=false:=beq_eq_false_iff_ne.2 (by omega)
   rcases ho.2 with ⟨_,h0⟩ | ⟨g,cap,cur0,hv,hbg,hh0,hnc,hcm,hsz,htk⟩
   ·omega
   obtain ⟨rfl,rfl⟩:A=some ⟨g,0,none⟩∧c=cap:=by injection hv with e1 _ e3;exact ⟨e1,e3⟩
   clear hv
   have HZ:=hd_ hsz
   have hns:n*2≤cur0.size:=by have:=Nat.mul_le_mul_right 2 hnc;omega
   have hcell:∀ m,m<xs.length*2→cur0[m]?=(xs.flatMap foC)[m]?:=fun m hm=>by
    rw [← htk,List.getElem?_take,if_pos (by rw [← hxn];exact hm),Array.getElem?_toList]
   have HST:=hd_ (DelC.start (f:=foC) (s:=2) (fun _=>rfl) hf hcell)
   have HP:Hid (∀ W,w.grownBy W (some g)→∀ x∈xs,Calls Tryz.prog 98 #[.agg (foC x).toArray,.pointer (some ⟨q0,0,none⟩),.pointer (some ⟨q1,0,none⟩),.pointer (some ⟨q2,0,none⟩)] W fun e w'=>e=.returned (.bool (p x))∧Below W.heap.size W w'):=by show ∀ _,_;exact hp
   have HXN:=hd_ hxn
   have HH0:=hd_ hh0
   have hgs:g<w.heap.size:=block_lt hh0
   have hzc:∀ w,(zeroValue 48).run Tryz.prog w=.ok (.agg #[.int .i64 0,.int .i64 0]) w:=fun w=>by kernel_rfl
   clear hp hf htk hsz hcell hh0 ho
   go_enter Tryz.func97,Tryz.ntmps97
   go_wp2_with (go_at_call 116;refine hIF.mono ?_;rintro e w1 ⟨rfl,hb1⟩)
   go_loopw [5,6] (fun si sj wr=>∃ (i j:Nat) (cur:Array Value),i<j∧j≤n∧si=.int .i64 i∧sj=.int .i64 j∧wr.heap[g]?=some (.cells cur 48 (0,0))∧DelC foC 2 xs (fun x=>!p x) cur0 i j cur∧w.grownBy wr (some g)) (fun _ sj _=>n - (intOf sj).toNat)
   case atStart=>exact ⟨k0,k0+1,cur0,by omega,by omega,rfl,by go_num,(hb1.block g hgs).trans HH0.out,HST.out,grown_wk (grown_of_below hb1) _⟩
   case round =>
    obtain ⟨i,j,cur,hij,hjn,rfl,rfl,hh,hD,hG⟩:=hrel
    have hce:∀ m,wr.cell? ⟨g,m,none⟩=cur[m]?:=fun m=>by simp [World.cell?,hh]
    have hfz:∀ m,wr.frozen? ⟨g,m,none⟩=false:=fun m=>by simp [World.frozen?,hh]
    have hgr:g<wr.heap.size:=block_lt hh
    have HH:=hd_ hh
    have HD:=hd_ hD
    have HG:=hd_ hG
    have hcs:cur.size=cur0.size:=hD.size
    by_cases hlt:j<n
    ·obtain ⟨x,hx⟩:∃ x,xs[j]?=some x:=⟨_,List.getElem?_eq_getElem (by rw [HXN.out];exact hlt)⟩
     have HX:=hd_ hx
     have hjs:(j+1)*2≤n*2:=Nat.mul_le_mul_right 2 hlt
     have gx:∀ m u,m<2→(foC x)[m]?=some u→wr.cell? ⟨g,j*2+m,none⟩=some u:=fun m u hm hu=>by
      rw [hce,HD.out.high _ (by omega) (by rw [HXN.out];omega),← hu]
      exact flat_get foC 2 (fun _=>rfl) xs j m x HX.out hm
     have a0:=gx 0 _ (by omega) rfl;have a1:=gx 1 _ (by omega) rfl
     have gi:∀ m,m<2→∃ u,wr.cell? ⟨g,i*2+m,none⟩=some u:=fun m hm=>by
      rw [hce]
      exact ⟨_,Array.getElem?_eq_getElem (show i*2+m<cur.size by have:(i+1)*2≤j*2:=Nat.mul_le_mul_right 2 hij;omega)⟩
     obtain ⟨u0,b0⟩:=gi 0 (by omega);obtain ⟨u1,b1⟩:=gi 1 (by omega)
     simp only [Nat.add_zero] at a0 b0
     have hcall:=HP.out (wr.alloc (.cells (foC x).toArray 48)) (HG.out.trans (grown_alloc wr _ (some g))) x (List.mem_of_getElem? hx)
     clear hx gx gi hh hD hG hce
     cases hpx:p x with
     | true =>
       rw [hpx] at hcall
       have HDS:=hd_ (HD.out.skip HX.out (show (fun x=>!p x) x=false by simp [hpx]))
       clear hpx
       go_wp2_with (go_at_call 98;refine hcall.mono ?_;rintro e w2 ⟨rfl,hb2⟩)
       go_roundw
       case rel =>
        exact ⟨i,j+1,cur,by omega,by omega,rfl,by go_num,(hb2.block g (by simp;omega)).trans ((Below.heap_alloc _ _ _ hgr).trans HH.out),HDS.out,(HG.out.trans (grown_alloc wr _ (some g))).trans (grown_wk (grown_of_below hb2) _)⟩
       case measure=>exact ms_
     | false =>
       rw [hpx] at hcall
       have HKP:=hd_ hpx
       clear hpx
       have hall:∀ w2,Below (wr.alloc (.cells (foC x).toArray 48)).heap.size (wr.alloc (.cells (foC x).toArray 48)) w2→w2.heap[g]?=some (.cells cur 48 (0,0))∧w.grownBy w2 (some g)∧BoxA w2 wr.heap.size 48 (foC x).toArray∧w2.cell? ⟨g,i*2,none⟩=some u0∧w2.cell? ⟨g,i*2+1,none⟩=some u1:=fun w2 hb2=>by
        have hge:g<(wr.alloc (.cells (foC x).toArray 48)).heap.size:=by simp;omega
        exact ⟨(hb2.block g hge).trans ((Below.heap_alloc _ _ _ hgr).trans HH.out),(HG.out.trans (grown_alloc wr (.cells (foC x).toArray 48) (some g))).trans (grown_wk (grown_of_below hb2) (some g)),(BoxA.new wr 48 (foC x).toArray).ext hb2,(hb2.cell (p:=⟨g,_,none⟩) hge).trans ((((Below.refl wr.heap.size wr).alloc lr_ (.cells (foC x).toArray 48)).cell (p:=⟨g,_,none⟩) hgr).trans b0),(hb2.cell (p:=⟨g,_,none⟩) hge).trans ((((Below.refl wr.heap.size wr).alloc lr_ (.cells (foC x).toArray 48)).cell (p:=⟨g,_,none⟩) hgr).trans b1)⟩
       have HALL:=hd_ hall
       clear hall
       go_wp2_with (go_at_call 98;refine hcall.mono ?_;rintro e w2 ⟨rfl,hb2⟩;obtain ⟨hh2,hG2,bV,c0,c1⟩:=HALL.out w2 hb2;have kV:=bV.cell;have zV:=bV.lt;have fz2:∀ m,w2.frozen? ⟨g,m,none⟩=false:=(fun m=>by simp [World.frozen?,hh2]);have HH2:=hd_ hh2;have HG2:=hd_ hG2;clear hh2 hG2)
       go_roundw
       case rel =>
        obtain ⟨cur',h1,h2,h3⟩:=block_setCells (foC x) (i*2) w2 cur HH2.out
        exact ⟨i+1,j+1,cur',by omega,by omega,by go_num,by go_num,h1,DelC.take (f:=foC) (s:=2) (fun _=>rfl) HD.out (by omega) HX.out (by simp [HKP.out]) h2 h3 (by rw [HXN.out];exact hns),HG2.out.trans (grown_setCells g (foC x) (i*2) w2)⟩
       case measure=>exact ms_
    ·have hjn2:j=n:=by omega
     subst hjn2
     have hcz:(.agg #[.int .i64 0,.int .i64 0]:Value).cells.size=2:=rfl
     have hZ:=HZ.out
     have hij2:i*2+(j - i)*2=j*2:=by omega
     have hcl:∀ ty,(Builtin.clear_ #[44] ty #[.slice (some ⟨g,i*2,none⟩) (j - i) (c - i)]).run Tryz.prog wr=.ok (.tuple #[]) (wr.setCells g (i*2) (Builtin.zeroCells (.agg #[.int .i64 0,.int .i64 0]:Value).cells (j - i)).toList):=fun ty =>
      run_clear_k wr 44 48 ty _ Tryz.underlying44 hzc (by decide) (by simp [Value.cells,Value.oneCell']) g (i*2) (j - i) (c - i) (by omega)
       (fun m hm=>by rw [hcz] at hm;rw [hce,Array.getElem?_eq_getElem (show i*2+m<cur.size by omega)];rfl) (fun m hm=>hfz _)
     obtain ⟨cur',h1,h2,h3⟩:=block_setCells (Builtin.zeroCells (.agg #[.int .i64 0,.int .i64 0]:Value).cells (j - i)).toList (i*2) wr cur HH.out
     have hfin:xs.take j=xs:=List.take_of_length_le (by rw [HXN.out];exact lr_)
     have hlow:=HD.out.low
     have hcnt:=HD.out.cnt
     rw [hfin] at hlow hcnt
     have hown:=own_of_getK (w:=wr.setCells g (i*2) (Builtin.zeroCells (.agg #[.int .i64 0,.int .i64 0]:Value).cells (j - i)).toList) (base:=base) (g:=g) (cap:=c) (n:=i) (s:=2) (e:=48) (cur:=cur') (xs:=(xs.filter fun x=>!p x).flatMap foC) hbg h1 (by omega) hcm (by omega) (by rw [flat_len foC 2 (fun _=>rfl),hcnt]) (fun m hm=>by
      rw [h3 m (by omega),if_neg (by omega)]
      exact hlow m hm)
     have HOW:=hd_ hown
     have HCN:=hd_ hcnt
     clear h1 h2 h3 hfin hlow hcnt hown hce hcz hij2
     go_wp2
     go_ret
     refine ⟨_,rfl,?_,HG.out.trans (grown_setCells g _ (i*2) wr),rfl⟩
     rw [HCN.out]
     exact HOW.out
theorem Is.box {W W':World} {B q n:Nat} {A:Option Addr} {t t':TypeId} {cs cs':Array Value} {xs:List Int} (h:Is W B A n xs) (hb:BoxA W q t cs) (hb':BoxA W' q t' cs') (hk:∀ b,b<B→b≠q→W'.heap[b]?=W.heap[b]?) (hc:∀ (m:Nat) (v:Int),cs[m]?=some (.int .i64 v)→cs'[m]?=some (.int .i64 v)):Is W' B A n xs:=by
 refine ⟨h.1,fun h0=>?_⟩
 obtain ⟨b,o,e,hbB,hcell⟩:=h.2 h0
 refine ⟨b,o,e,hbB,fun j u hu=>?_⟩
 have h1:=hcell j u hu
 by_cases hq:b=q
 ·subst hq
  rw [hb.cell] at h1
  rw [hb'.cell]
  obtain ⟨v,rfl⟩:∃ v,u=.int .i64 v:=by
   have:=List.mem_of_getElem? hu
   obtain ⟨v,_,rfl⟩:=List.mem_map.1 this
   exact ⟨v,rfl⟩
  exact hc _ _ h1
 ·rw [← h1]
  simp only [World.cell?,hk b hbB hq]
theorem acc_int (a:Acc) (A:Option Addr) (c:Nat) (m:Nat) (v:Int) (h:(accC a)[m]?=some (.int .i64 v)):(accC { a with PA:=A,Pc:=c })[m]?=some (.int .i64 v):=by
 match m,h with
 | 0,h=>simp at h
 | 1,h=>simp at h
 | 2,h=>simp at h
 | 3,h=>simp at h
 | 4,h=>exact h
 | 5,h=>simp at h
 | 6,h=>simp at h
 | 7,h=>simp at h
 | 8,h=>simp at h
 | 9,h=>simp at h
 | m+10,h=>simp at h
def lieO (l:Led) (kn day:Int) (r:Rcp) (leaf:Int):Bool:=match getN (opnL l kn).M (r.src,leaf) with
 | none=>true
 | some i=>decide (day<((setP l kn).getD i (0,0)).2)
def lieB (l:Led) (kn day:Int) (r:Rcp) (leaf:Int):Bool:=match getN (opnL l kn).M (r.src,leaf) with
 | none=>false
 | some i=>decide (((setP l kn).getD i (0,0)).1≤day)
def liesX (l:Led) (src day kn:Int):Int × Int:=if preE l [day,kn]=0 then (match findR (cntR l kn) src with
 | none=>(0,3)
 | some r=>if setE l kn=0 then (if day<r.day then (0,0) else (ansI (r.lv.any (lieO l kn day r)) (r.lv.all (lieB l kn day r)),0)) else (0,setE l kn)) else (0,preE l [day,kn])
set_option maxRecDepth 10000 in
theorem p_Lies (l:Led) (x:Lsl) (src day kn:Int) (w:World) (hf:x.fit) (hd:LedIn w w.heap.size x l) :
 Calls Tryz.prog 35 #[.agg #[.slice x.pA x.pn x.pc,.slice x.rA x.rn x.rc,.slice x.tA x.tn x.tc,.slice x.sA x.sn x.sc],.int .i64 src,.int .i64 day,.int .i64 kn] w (fun e w'=>e=.returned (.tuple #[.int .i64 (liesX l src day kn).1,.int .i64 (liesX l src day kn).2])∧Below w.heap.size w w'):=by
 obtain ⟨pA,pn,pc,rA,rn,rc,tA,tn,tc,sA,sn,sc⟩:=x
 have HD:=hd_ hd
 have hml:maxLen≤9223372036854775807:=by decide
 have hpn:pn≤9223372036854775807:=by have:=hf.p;dsimp only at this;omega
 have hrn:rn≤9223372036854775807:=by have:=hf.r;dsimp only at this;omega
 have htn:tn≤9223372036854775807:=by have:=hf.t;dsimp only at this;omega
 have hsn:sn≤9223372036854775807:=by have:=hf.s;dsimp only at this;omega
 clear hd hf hml
 obtain ⟨v,hv⟩:∃ v,preE l [day,kn]=v:=⟨_,rfl⟩
 have HV:Hid (orL [errI (ledB l) 24,errI (daysOk [day,kn]) 6]=v):=by show _=_;exact hv
 by_cases hv0:v=0
 ·subst hv0
  have HLO:=hd_ (led_ok (pre_zero hv).1)
  cases hfr:findR (cntR l kn) src with
  | none =>
    have hres:liesX l src day kn=(0,3):=by rw [liesX,if_pos hv,hfr]
    rw [hres]
    have HFR:=hd_ hfr
    clear hres hfr hv
    go_enter Tryz.func35,Tryz.ntmps35
    go_wp2_with (first | (go_at_call 12;refine (p_Check l ⟨pA,pn,pc,rA,rn,rc,tA,tn,tc,sA,sn,sc⟩ _ hpn hrn htn hsn (HD.out.now (by exact bel_))).mono ?_;rintro e w1 ⟨rfl,hb1⟩;have HB1:Below w.heap.size w w1:=bt_ (by exact bel_) hb1;have hs1:=HB1.size;have bL0:=BoxA.new w 32 #[.slice pA pn pc,.slice rA rn rc,.slice tA tn tc,.slice sA sn sc];have bL1:=bL0.ext hb1;have kL1:=bL1.cell;have zL1:=bL1.lt;clear hb1) | (go_at_call 63;refine (p_checkDays [day,kn] _ 2 2 _ (by decide) (Rd.new _ #[.int .i64 day,.int .i64 kn] _ 1 2 _ (by simp) rfl)).mono ?_;rintro e w2 ⟨rfl,hb2⟩;have HB2:Below w.heap.size w w2:=bt_ (by exact bel_) hb2;have hs2:=HB2.size;have bL2:=(bL1.alloc _).ext hb2;have kL2:=bL2.cell;have zL2:=bL2.lt;clear kL1 zL1;clear hb2) | (go_at_call 62;refine (p_first [errI (ledB l) 24,errI (daysOk [day,kn]) 6] 0 _ 2 2 _ (by decide) (Rd.new _ #[.int .i64 (errI (ledB l) 24),.int .i64 (errI (daysOk [day,kn]) 6)] _ 1 2 _ (by simp) rfl) HV.out).mono ?_;rintro e w1 ⟨rfl,rfl⟩) | (go_at_call 64;refine (p_openA l ⟨pA,pn,pc,rA,rn,rc,tA,tn,tc,sA,sn,sc⟩ kn _ HLO.out (HD.out.now (by exact bel_))).mono ?_;rintro e w5 ⟨RA,Rn,Rc,SA,Sn,Sc,bm,TA,Tn,Tc,PA,Pn,Pc,rfl,hb5,hO⟩;have HB5:Below w.heap.size w w5:=bt_ (by exact bel_) hb5;have hs5:=HB5.size;have HO:=hd_ hO;have bL5:=(bL2.alloc _).ext hb5;have kL5:=bL5.cell;have zL5:=bL5.lt;clear kL2 zL2;clear hO hb5) | (go_at_call 83;have hrc:=p_receipt (cntR l kn) ⟨⟨pA,pn,pc,rA,rn,rc,tA,tn,tc,sA,sn,sc⟩,kn,RA,Rn,Rc,SA,Sn,Sc,bm,TA,Tn,Tc,PA,Pn,Pc⟩ src (w5.alloc (.cells #[.slice pA pn pc,.slice rA rn rc,.slice tA tn tc,.slice sA sn sc,.int .i64 kn,.slice RA Rn Rc,.slice SA Sn Sc,.map (some bm),.slice TA Tn Tc,.slice PA Pn Pc] 115)) HO.out.acc.nR ((HO.out.now (show Below w5.heap.size w5 (w5.alloc (.cells #[.slice pA pn pc,.slice rA rn rc,.slice tA tn tc,.slice sA sn sc,.int .i64 kn,.slice RA Rn Rc,.slice SA Sn Sc,.map (some bm),.slice TA Tn Tc,.slice PA Pn Pc] 115)) by exact bel_)).acc.r);rw [HFR.out] at hrc;refine hrc.mono ?_;clear hrc;rintro e w6 ⟨hb6,rfl⟩;have HB6:Below w.heap.size w w6:=HB5.trans ((bt_ (show Below w5.heap.size w5 _ by exact bel_) hb6).mono hs5);have hs6:=HB6.size))
    go_ret2
    exact ⟨rfl,by exact bel_⟩
  | some r =>
    have HFR:=hd_ hfr
    have HRL:Hid (r.lv.length≤1000000):=by show _≤_;have h1:=(HLO.out.rc r (List.mem_filter.1 (findR_mem hfr).1).1).1;omega
    have hrs:=(HLO.out.rc r (List.mem_filter.1 (findR_mem hfr).1).1).2.1
    have hrw:=(HLO.out.rc r (List.mem_filter.1 (findR_mem hfr).1).1).2.2.1
    have HRW:=hd_ hrw
    obtain ⟨ve,hve⟩:∃ ve,setE l kn=ve:=⟨_,rfl⟩
    by_cases he:ve=0
    ·subst he
     have HSE:=hd_ hve
     by_cases hdd:day<r.day
     ·have hres:liesX l src day kn=(0,0):=by rw [liesX,if_pos hv,hfr];simp only [if_pos hve,if_pos hdd]
      rw [hres]
      clear hres hfr hv hve hrw
      go_enter Tryz.func35,Tryz.ntmps35
      go_wp2_with (first | (go_at_call 12;refine (p_Check l ⟨pA,pn,pc,rA,rn,rc,tA,tn,tc,sA,sn,sc⟩ _ hpn hrn htn hsn (HD.out.now (by exact bel_))).mono ?_;rintro e w1 ⟨rfl,hb1⟩;have HB1:Below w.heap.size w w1:=bt_ (by exact bel_) hb1;have hs1:=HB1.size;have bL0:=BoxA.new w 32 #[.slice pA pn pc,.slice rA rn rc,.slice tA tn tc,.slice sA sn sc];have bL1:=bL0.ext hb1;have kL1:=bL1.cell;have zL1:=bL1.lt;clear hb1) | (go_at_call 63;refine (p_checkDays [day,kn] _ 2 2 _ (by decide) (Rd.new _ #[.int .i64 day,.int .i64 kn] _ 1 2 _ (by simp) rfl)).mono ?_;rintro e w2 ⟨rfl,hb2⟩;have HB2:Below w.heap.size w w2:=bt_ (by exact bel_) hb2;have hs2:=HB2.size;have bL2:=(bL1.alloc _).ext hb2;have kL2:=bL2.cell;have zL2:=bL2.lt;clear kL1 zL1;clear hb2) | (go_at_call 62;refine (p_first [errI (ledB l) 24,errI (daysOk [day,kn]) 6] 0 _ 2 2 _ (by decide) (Rd.new _ #[.int .i64 (errI (ledB l) 24),.int .i64 (errI (daysOk [day,kn]) 6)] _ 1 2 _ (by simp) rfl) HV.out).mono ?_;rintro e w1 ⟨rfl,rfl⟩) | (go_at_call 64;refine (p_openA l ⟨pA,pn,pc,rA,rn,rc,tA,tn,tc,sA,sn,sc⟩ kn _ HLO.out (HD.out.now (by exact bel_))).mono ?_;rintro e w5 ⟨RA,Rn,Rc,SA,Sn,Sc,bm,TA,Tn,Tc,PA,Pn,Pc,rfl,hb5,hO⟩;have HB5:Below w.heap.size w w5:=bt_ (by exact bel_) hb5;have hs5:=HB5.size;have HO:=hd_ hO;have bL5:=(bL2.alloc _).ext hb5;have kL5:=bL5.cell;have zL5:=bL5.lt;clear kL2 zL2;clear hO hb5) | (go_at_call 83;have hrc:=p_receipt (cntR l kn) ⟨⟨pA,pn,pc,rA,rn,rc,tA,tn,tc,sA,sn,sc⟩,kn,RA,Rn,Rc,SA,Sn,Sc,bm,TA,Tn,Tc,PA,Pn,Pc⟩ src (w5.alloc (.cells #[.slice pA pn pc,.slice rA rn rc,.slice tA tn tc,.slice sA sn sc,.int .i64 kn,.slice RA Rn Rc,.slice SA Sn Sc,.map (some bm),.slice TA Tn Tc,.slice PA Pn Pc] 115)) HO.out.acc.nR ((HO.out.now (show Below w5.heap.size w5 (w5.alloc (.cells #[.slice pA pn pc,.slice rA rn rc,.slice tA tn tc,.slice sA sn sc,.int .i64 kn,.slice RA Rn Rc,.slice SA Sn Sc,.map (some bm),.slice TA Tn Tc,.slice PA Pn Pc] 115)) by exact bel_)).acc.r);rw [HFR.out] at hrc;refine hrc.mono ?_;clear hrc;rintro e w6 ⟨hb6,A1,n1,c1,rfl,hi1,hc1,hm1⟩;have HW6:Below w5.heap.size w5 w6:=bt_ (show Below w5.heap.size w5 _ by exact bel_) hb6;have HB6:Below w.heap.size w w6:=HB5.trans (HW6.mono hs5);have hs6:=HB6.size;have hs56:=HW6.size;have bA6:=(BoxA.new w5 115 #[.slice pA pn pc,.slice rA rn rc,.slice tA tn tc,.slice sA sn sc,.int .i64 kn,.slice RA Rn Rc,.slice SA Sn Sc,.map (some bm),.slice TA Tn Tc,.slice PA Pn Pc]).ext hb6;have k6:=bA6.cell;have z6:=bA6.lt;have HI1:=hd_ (hi1.now hb6);have hn1:n1≤1000000:=(by rw [← hi1.len];exact HRL.out);clear hi1 hb6 kL5 zL5) | (go_at_call 73;refine (p_settle0G l kn ⟨⟨pA,pn,pc,rA,rn,rc,tA,tn,tc,sA,sn,sc⟩,kn,RA,Rn,Rc,SA,Sn,Sc,bm,TA,Tn,Tc,PA,Pn,Pc⟩ w5 (w6.alloc (.cells #[.int .i64 r.src,.int .i64 r.bor,.int .i64 r.pap,.slice A1 n1 c1,.int .i64 r.day,.int .i64 r.kn,.int .i64 r.un] 79)) HLO.out HO.out (HW6.trans ((show Below w6.heap.size w6 (w6.alloc (.cells #[.int .i64 r.src,.int .i64 r.bor,.int .i64 r.pap,.slice A1 n1 c1,.int .i64 r.day,.int .i64 r.kn,.int .i64 r.un] 79)) by exact bel_).mono hs56)) (bA6.alloc _) HSE.out).mono ?_;rintro e w7 ⟨PA2,Pc2,rfl,hb7,hk7,hz7,hbx7,hac7,hlp7,_⟩;have HB7:Below w.heap.size w w7:=HB5.trans (hb7.mono hs5);have hs7:=HB7.size;have bR7:BoxA w7 w6.heap.size 79 #[.int .i64 r.src,.int .i64 r.bor,.int .i64 r.pap,.slice A1 n1 c1,.int .i64 r.day,.int .i64 r.kn,.int .i64 r.un]:=(hk7 _ (by simp) (by have:=bA6.lt;omega)).trans (BoxA.new w6 _ _);have kR7:=bR7.cell;have zR7:=bR7.lt;have HI7:=hd_ ((Is.box (HI1.out.now (show Below w6.heap.size w6 (w6.alloc (.cells #[.int .i64 r.src,.int .i64 r.bor,.int .i64 r.pap,.slice A1 n1 c1,.int .i64 r.day,.int .i64 r.kn,.int .i64 r.un] 79)) by exact bel_)) (bA6.alloc _) hbx7 hk7 (acc_int ⟨⟨pA,pn,pc,rA,rn,rc,tA,tn,tc,sA,sn,sc⟩,kn,RA,Rn,Rc,SA,Sn,Sc,bm,TA,Tn,Tc,PA,Pn,Pc⟩ PA2 Pc2)).more hz7);have HBX:=hd_ hbx7;have HAC:=hd_ hac7;have HLP:=hd_ hlp7;have HBR:=hd_ bR7;have k7:=hbx7.cell;have z7:=hbx7.lt;clear k6 z6 hbx7 hac7 hlp7))
      go_ret2
      exact ⟨rfl,HB7⟩
     ·have hres:liesX l src day kn=(ansI (r.lv.any (lieO l kn day r)) (r.lv.all (lieB l kn day r)),0):=by rw [liesX,if_pos hv,hfr];simp only [if_pos hve,if_neg hdd]
      rw [hres]
      clear hres hfr hv hve hrw
      go_enter Tryz.func35,Tryz.ntmps35
      go_wp2_with (first | (go_at_call 12;refine (p_Check l ⟨pA,pn,pc,rA,rn,rc,tA,tn,tc,sA,sn,sc⟩ _ hpn hrn htn hsn (HD.out.now (by exact bel_))).mono ?_;rintro e w1 ⟨rfl,hb1⟩;have HB1:Below w.heap.size w w1:=bt_ (by exact bel_) hb1;have hs1:=HB1.size;have bL0:=BoxA.new w 32 #[.slice pA pn pc,.slice rA rn rc,.slice tA tn tc,.slice sA sn sc];have bL1:=bL0.ext hb1;have kL1:=bL1.cell;have zL1:=bL1.lt;clear hb1) | (go_at_call 63;refine (p_checkDays [day,kn] _ 2 2 _ (by decide) (Rd.new _ #[.int .i64 day,.int .i64 kn] _ 1 2 _ (by simp) rfl)).mono ?_;rintro e w2 ⟨rfl,hb2⟩;have HB2:Below w.heap.size w w2:=bt_ (by exact bel_) hb2;have hs2:=HB2.size;have bL2:=(bL1.alloc _).ext hb2;have kL2:=bL2.cell;have zL2:=bL2.lt;clear kL1 zL1;clear hb2) | (go_at_call 62;refine (p_first [errI (ledB l) 24,errI (daysOk [day,kn]) 6] 0 _ 2 2 _ (by decide) (Rd.new _ #[.int .i64 (errI (ledB l) 24),.int .i64 (errI (daysOk [day,kn]) 6)] _ 1 2 _ (by simp) rfl) HV.out).mono ?_;rintro e w1 ⟨rfl,rfl⟩) | (go_at_call 64;refine (p_openA l ⟨pA,pn,pc,rA,rn,rc,tA,tn,tc,sA,sn,sc⟩ kn _ HLO.out (HD.out.now (by exact bel_))).mono ?_;rintro e w5 ⟨RA,Rn,Rc,SA,Sn,Sc,bm,TA,Tn,Tc,PA,Pn,Pc,rfl,hb5,hO⟩;have HB5:Below w.heap.size w w5:=bt_ (by exact bel_) hb5;have hs5:=HB5.size;have HO:=hd_ hO;have bL5:=(bL2.alloc _).ext hb5;have kL5:=bL5.cell;have zL5:=bL5.lt;clear kL2 zL2;clear hO hb5) | (go_at_call 83;have hrc:=p_receipt (cntR l kn) ⟨⟨pA,pn,pc,rA,rn,rc,tA,tn,tc,sA,sn,sc⟩,kn,RA,Rn,Rc,SA,Sn,Sc,bm,TA,Tn,Tc,PA,Pn,Pc⟩ src (w5.alloc (.cells #[.slice pA pn pc,.slice rA rn rc,.slice tA tn tc,.slice sA sn sc,.int .i64 kn,.slice RA Rn Rc,.slice SA Sn Sc,.map (some bm),.slice TA Tn Tc,.slice PA Pn Pc] 115)) HO.out.acc.nR ((HO.out.now (show Below w5.heap.size w5 (w5.alloc (.cells #[.slice pA pn pc,.slice rA rn rc,.slice tA tn tc,.slice sA sn sc,.int .i64 kn,.slice RA Rn Rc,.slice SA Sn Sc,.map (some bm),.slice TA Tn Tc,.slice PA Pn Pc] 115)) by exact bel_)).acc.r);rw [HFR.out] at hrc;refine hrc.mono ?_;clear hrc;rintro e w6 ⟨hb6,A1,n1,c1,rfl,hi1,hc1,hm1⟩;have HW6:Below w5.heap.size w5 w6:=bt_ (show Below w5.heap.size w5 _ by exact bel_) hb6;have HB6:Below w.heap.size w w6:=HB5.trans (HW6.mono hs5);have hs6:=HB6.size;have hs56:=HW6.size;have bA6:=(BoxA.new w5 115 #[.slice pA pn pc,.slice rA rn rc,.slice tA tn tc,.slice sA sn sc,.int .i64 kn,.slice RA Rn Rc,.slice SA Sn Sc,.map (some bm),.slice TA Tn Tc,.slice PA Pn Pc]).ext hb6;have k6:=bA6.cell;have z6:=bA6.lt;have HI1:=hd_ (hi1.now hb6);have hn1:n1≤1000000:=(by rw [← hi1.len];exact HRL.out);clear hi1 hb6 kL5 zL5) | (go_at_call 73;refine (p_settle0G l kn ⟨⟨pA,pn,pc,rA,rn,rc,tA,tn,tc,sA,sn,sc⟩,kn,RA,Rn,Rc,SA,Sn,Sc,bm,TA,Tn,Tc,PA,Pn,Pc⟩ w5 (w6.alloc (.cells #[.int .i64 r.src,.int .i64 r.bor,.int .i64 r.pap,.slice A1 n1 c1,.int .i64 r.day,.int .i64 r.kn,.int .i64 r.un] 79)) HLO.out HO.out (HW6.trans ((show Below w6.heap.size w6 (w6.alloc (.cells #[.int .i64 r.src,.int .i64 r.bor,.int .i64 r.pap,.slice A1 n1 c1,.int .i64 r.day,.int .i64 r.kn,.int .i64 r.un] 79)) by exact bel_).mono hs56)) (bA6.alloc _) HSE.out).mono ?_;rintro e w7 ⟨PA2,Pc2,rfl,hb7,hk7,hz7,hbx7,hac7,hlp7,_⟩;have HB7:Below w.heap.size w w7:=HB5.trans (hb7.mono hs5);have hs7:=HB7.size;have bR7:BoxA w7 w6.heap.size 79 #[.int .i64 r.src,.int .i64 r.bor,.int .i64 r.pap,.slice A1 n1 c1,.int .i64 r.day,.int .i64 r.kn,.int .i64 r.un]:=(hk7 _ (by simp) (by have:=bA6.lt;omega)).trans (BoxA.new w6 _ _);have kR7:=bR7.cell;have zR7:=bR7.lt;have HI7:=hd_ ((Is.box (HI1.out.now (show Below w6.heap.size w6 (w6.alloc (.cells #[.int .i64 r.src,.int .i64 r.bor,.int .i64 r.pap,.slice A1 n1 c1,.int .i64 r.day,.int .i64 r.kn,.int .i64 r.un] 79)) by exact bel_)) (bA6.alloc _) hbx7 hk7 (acc_int ⟨⟨pA,pn,pc,rA,rn,rc,tA,tn,tc,sA,sn,sc⟩,kn,RA,Rn,Rc,SA,Sn,Sc,bm,TA,Tn,Tc,PA,Pn,Pc⟩ PA2 Pc2)).more hz7);have HBX:=hd_ hbx7;have HAC:=hd_ hac7;have HLP:=hd_ hlp7;have HBR:=hd_ bR7;have k7:=hbx7.cell;have z7:=hbx7.lt;clear k6 z6 hbx7 hac7 hlp7))
      have hnl:Hid (r.lv.length=n1):=by show _=_;exact HI7.out.len
      go_loopw [15,16,54] (fun ca cb i wr=>∃ k:Nat,k≤n1∧i=.int .i64 k∧ca=.bool ((r.lv.take k).any (lieO l kn day r))∧cb=.bool ((r.lv.take k).all (lieB l kn day r))∧Below w7.heap.size w7 wr) (fun _ _ i _=>n1 - (intOf i).toNat)
      case atStart=>exact ⟨0,by omega,rfl,rfl,rfl,Below.refl _ _⟩
      case round =>
       obtain ⟨k,hk,rfl,rfl,rfl,hB⟩:=hrel
       have hsB:=hB.size
       have bAw:=HBX.out.ext hB
       have kAw:=bAw.cell
       have zAw:=bAw.lt
       have bRw:=HBR.out.ext hB
       have kRw:=bRw.cell
       have zRw:=bRw.lt
       have HACw:=hd_ (HAC.out.now hB)
       obtain ⟨ca,hca⟩:∃ b,(r.lv.take k).any (lieO l kn day r)=b:=⟨_,rfl⟩
       obtain ⟨cb,hcb⟩:∃ b,(r.lv.take k).all (lieB l kn day r)=b:=⟨_,rfl⟩
       rw [hca,hcb]
       have HCA:=hd_ hca
       have HCB:=hd_ hcb
       clear hca hcb
       by_cases hlt:k<n1
       ·obtain ⟨b,o,x,hA1,hb,hx,hcx⟩:=(HI7.out.now hB).at_ hlt
        have hwx:=HRW.out x (List.mem_of_getElem? hx)
        have HAN:=hd_ (any_take_succ2 (p:=lieO l kn day r) hx)
        have HAL:=hd_ (all_take_succ (p:=lieB l kn day r) hx)
        have hA1':A1=some ⟨b,o,none⟩:=hA1
        subst hA1'
        have hlk:=(HACw.out.m).look2 key_slips Tryz.underlying112 (a:=(r.src,x)) ⟨hrs,hwx⟩ (zeroInt2 wr)
        rw [getG_enc] at hlk
        clear hx hA1 hwx
        cases hg:getN (opnL l kn).M (r.src,x) with
        | none =>
          rw [hg] at hlk
          simp only [Option.map_none,Option.getD_none,Option.isSome_none] at hlk
          have HP1:Hid (lieO l kn day r x=true):=by show _=_;rw [lieO,hg]
          have HP2:Hid (lieB l kn day r x=false):=by show _=_;rw [lieB,hg]
          clear hg
          cases ca <;> cases cb
          all_goals
           go_wp2_with fail
           go_roundw
           case rel=>exact ⟨k+1,by omega,by go_num,by rw [HAN.out,HCA.out,HP1.out] <;> rfl,by rw [HAL.out,HCB.out,HP2.out] <;> rfl,hB⟩
           case measure=>exact ms_
        | some i =>
          rw [hg] at hlk
          simp only [Option.map_some,Option.getD_some,Option.isSome_some] at hlk
          have hiP:i<Pn:=HACw.out.mP _ _ hg
          obtain ⟨b2,o2,d,hPA,hb2,hd,q0,q1⟩:=HACw.out.p.at_ hiP
          have hPA':PA2=some ⟨b2,o2,none⟩:=hPA
          subst hPA'
          have hgd:(setP l kn).getD i (0,0)=d:=by rw [List.getD_eq_getElem?_getD,hd];rfl
          have HP1:Hid (lieO l kn day r x=decide (day<d.2)):=by show _=_;rw [lieO,hg];simp only [hgd]
          have HP2:Hid (lieB l kn day r x=decide (d.1≤day)):=by show _=_;rw [lieB,hg];simp only [hgd]
          clear hg hd hgd hPA
          cases ca <;> cases cb
          all_goals
           go_wp2_with fail
           go_roundw
           case rel=>exact ⟨k+1,by omega,by go_num,by rw [HAN.out,HCA.out,HP1.out] <;> rfl,by rw [HAL.out,HCB.out,HP2.out] <;> rfl,hB⟩
           case measure=>exact ms_
       ·have hkn:Hid (k=n1):=by show _=_;omega
        have hfa:r.lv.any (lieO l kn day r)=ca:=by
         have:=HCA.out
         rwa [List.take_of_length_le (by rw [hnl.out,hkn.out];exact lr_)] at this
        have hfb:r.lv.all (lieB l kn day r)=cb:=by
         have:=HCB.out
         rwa [List.take_of_length_le (by rw [hnl.out,hkn.out];exact lr_)] at this
        have HFA:=hd_ hfa
        have HFB:=hd_ hfb
        clear hfa hfb
        go_wp2_with (go_at_call 94;refine (p_answer ca cb _).mono ?_;rintro e w1 ⟨rfl,rfl⟩)
        go_ret2
        exact ⟨by rw [HFA.out,HFB.out];rfl,HB7.trans (hB.mono (by omega))⟩
    ·have hres:liesX l src day kn=(0,ve):=by rw [liesX,if_pos hv,hfr];simp only [hve,if_neg he]
     rw [hres]
     have HSE:=hd_ hve
     have HVE:=hd_ he
     have hed:(ve != 0)=true:=by simpa using he
     clear hres hfr hv hve he hrw
     go_enter Tryz.func35,Tryz.ntmps35
     go_wp2_with (first | (go_at_call 12;refine (p_Check l ⟨pA,pn,pc,rA,rn,rc,tA,tn,tc,sA,sn,sc⟩ _ hpn hrn htn hsn (HD.out.now (by exact bel_))).mono ?_;rintro e w1 ⟨rfl,hb1⟩;have HB1:Below w.heap.size w w1:=bt_ (by exact bel_) hb1;have hs1:=HB1.size;have bL0:=BoxA.new w 32 #[.slice pA pn pc,.slice rA rn rc,.slice tA tn tc,.slice sA sn sc];have bL1:=bL0.ext hb1;have kL1:=bL1.cell;have zL1:=bL1.lt;clear hb1) | (go_at_call 63;refine (p_checkDays [day,kn] _ 2 2 _ (by decide) (Rd.new _ #[.int .i64 day,.int .i64 kn] _ 1 2 _ (by simp) rfl)).mono ?_;rintro e w2 ⟨rfl,hb2⟩;have HB2:Below w.heap.size w w2:=bt_ (by exact bel_) hb2;have hs2:=HB2.size;have bL2:=(bL1.alloc _).ext hb2;have kL2:=bL2.cell;have zL2:=bL2.lt;clear kL1 zL1;clear hb2) | (go_at_call 62;refine (p_first [errI (ledB l) 24,errI (daysOk [day,kn]) 6] 0 _ 2 2 _ (by decide) (Rd.new _ #[.int .i64 (errI (ledB l) 24),.int .i64 (errI (daysOk [day,kn]) 6)] _ 1 2 _ (by simp) rfl) HV.out).mono ?_;rintro e w1 ⟨rfl,rfl⟩) | (go_at_call 64;refine (p_openA l ⟨pA,pn,pc,rA,rn,rc,tA,tn,tc,sA,sn,sc⟩ kn _ HLO.out (HD.out.now (by exact bel_))).mono ?_;rintro e w5 ⟨RA,Rn,Rc,SA,Sn,Sc,bm,TA,Tn,Tc,PA,Pn,Pc,rfl,hb5,hO⟩;have HB5:Below w.heap.size w w5:=bt_ (by exact bel_) hb5;have hs5:=HB5.size;have HO:=hd_ hO;have bL5:=(bL2.alloc _).ext hb5;have kL5:=bL5.cell;have zL5:=bL5.lt;clear kL2 zL2;clear hO hb5) | (go_at_call 83;have hrc:=p_receipt (cntR l kn) ⟨⟨pA,pn,pc,rA,rn,rc,tA,tn,tc,sA,sn,sc⟩,kn,RA,Rn,Rc,SA,Sn,Sc,bm,TA,Tn,Tc,PA,Pn,Pc⟩ src (w5.alloc (.cells #[.slice pA pn pc,.slice rA rn rc,.slice tA tn tc,.slice sA sn sc,.int .i64 kn,.slice RA Rn Rc,.slice SA Sn Sc,.map (some bm),.slice TA Tn Tc,.slice PA Pn Pc] 115)) HO.out.acc.nR ((HO.out.now (show Below w5.heap.size w5 (w5.alloc (.cells #[.slice pA pn pc,.slice rA rn rc,.slice tA tn tc,.slice sA sn sc,.int .i64 kn,.slice RA Rn Rc,.slice SA Sn Sc,.map (some bm),.slice TA Tn Tc,.slice PA Pn Pc] 115)) by exact bel_)).acc.r);rw [HFR.out] at hrc;refine hrc.mono ?_;clear hrc;rintro e w6 ⟨hb6,A1,n1,c1,rfl,hi1,hc1,hm1⟩;have HW6:Below w5.heap.size w5 w6:=bt_ (show Below w5.heap.size w5 _ by exact bel_) hb6;have HB6:Below w.heap.size w w6:=HB5.trans (HW6.mono hs5);have hs6:=HB6.size;have hs56:=HW6.size;have bA6:=(BoxA.new w5 115 #[.slice pA pn pc,.slice rA rn rc,.slice tA tn tc,.slice sA sn sc,.int .i64 kn,.slice RA Rn Rc,.slice SA Sn Sc,.map (some bm),.slice TA Tn Tc,.slice PA Pn Pc]).ext hb6;have k6:=bA6.cell;have z6:=bA6.lt;have HI1:=hd_ (hi1.now hb6);have hn1:n1≤1000000:=(by rw [← hi1.len];exact HRL.out);clear hi1 hb6 kL5 zL5) | (go_at_call 73;refine (p_settleNG l kn ⟨⟨pA,pn,pc,rA,rn,rc,tA,tn,tc,sA,sn,sc⟩,kn,RA,Rn,Rc,SA,Sn,Sc,bm,TA,Tn,Tc,PA,Pn,Pc⟩ ve w5 (w6.alloc (.cells #[.int .i64 r.src,.int .i64 r.bor,.int .i64 r.pap,.slice A1 n1 c1,.int .i64 r.day,.int .i64 r.kn,.int .i64 r.un] 79)) HLO.out HO.out (HW6.trans ((show Below w6.heap.size w6 (w6.alloc (.cells #[.int .i64 r.src,.int .i64 r.bor,.int .i64 r.pap,.slice A1 n1 c1,.int .i64 r.day,.int .i64 r.kn,.int .i64 r.un] 79)) by exact bel_).mono hs56)) (bA6.alloc _) HSE.out HVE.out).mono ?_;rintro e w7 ⟨rfl,hb7⟩;have HB7:Below w.heap.size w w7:=HB6.trans ((bt_ (show Below w6.heap.size w6 (w6.alloc (.cells #[.int .i64 r.src,.int .i64 r.bor,.int .i64 r.pap,.slice A1 n1 c1,.int .i64 r.day,.int .i64 r.kn,.int .i64 r.un] 79)) by exact bel_) hb7).mono hs6);have hs7:=HB7.size))
     go_ret2
     exact ⟨rfl,HB7⟩
 ·have hres:liesX l src day kn=(0,v):=by rw [liesX,if_neg (by rw [hv];exact hv0),hv]
  rw [hres]
  have hv1:(v != 0)=true:=by simpa using hv0
  clear hres hv hv0
  go_enter Tryz.func35,Tryz.ntmps35
  go_wp2_with (first | (go_at_call 12;refine (p_Check l ⟨pA,pn,pc,rA,rn,rc,tA,tn,tc,sA,sn,sc⟩ _ hpn hrn htn hsn (HD.out.now (by exact bel_))).mono ?_;rintro e w1 ⟨rfl,hb1⟩;have HB1:Below w.heap.size w w1:=bt_ (by exact bel_) hb1;have hs1:=HB1.size;have bL0:=BoxA.new w 32 #[.slice pA pn pc,.slice rA rn rc,.slice tA tn tc,.slice sA sn sc];have bL1:=bL0.ext hb1;have kL1:=bL1.cell;have zL1:=bL1.lt;clear hb1) | (go_at_call 63;refine (p_checkDays [day,kn] _ 2 2 _ (by decide) (Rd.new _ #[.int .i64 day,.int .i64 kn] _ 1 2 _ (by simp) rfl)).mono ?_;rintro e w2 ⟨rfl,hb2⟩;have HB2:Below w.heap.size w w2:=bt_ (by exact bel_) hb2;have hs2:=HB2.size;have bL2:=(bL1.alloc _).ext hb2;have kL2:=bL2.cell;have zL2:=bL2.lt;clear kL1 zL1;clear hb2) | (go_at_call 62;refine (p_first [errI (ledB l) 24,errI (daysOk [day,kn]) 6] v _ 2 2 _ (by decide) (Rd.new _ #[.int .i64 (errI (ledB l) 24),.int .i64 (errI (daysOk [day,kn]) 6)] _ 1 2 _ (by simp) rfl) HV.out).mono ?_;rintro e w1 ⟨rfl,rfl⟩))
  go_ret2
  exact ⟨rfl,by exact bel_⟩
end Go.Proofs.YtmcmbicapdcfmaaGreat
