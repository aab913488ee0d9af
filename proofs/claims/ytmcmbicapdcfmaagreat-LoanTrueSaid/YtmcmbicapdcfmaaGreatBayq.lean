/- Layer 2 of the texts that LoanBack takes: Bayq. -/
import Derived.Test.YtmcmbicapdcfmaaGreatBavq
set_option linter.unusedVariables false
set_option linter.unusedSimpArgs false
set_option maxHeartbeats 16000000
namespace Go.Proofs.YtmcmbicapdcfmaaGreat
open Go.RowKit Go.Maps
theorem at_Rtn {w wr:World} {B n:Nat} {A:Option Addr} {xs:List (Tv)} (h:Rd w B 8 A n (xs.flatMap tvC)) (hn:xs.length=n) (hb:Below w.heap.size w wr) (hB:B≤w.heap.size) {k:Nat} (hk:k<n) :
 ∃ b o x,A=some ⟨b,o,none⟩∧b<B∧xs[k]?=some x∧wr.cell? ⟨b,o+k*8,none⟩=some (.int .i64 x.r.src)∧wr.cell? ⟨b,o+k*8+1,none⟩=some (.int .i64 x.r.rcp)∧wr.cell? ⟨b,o+k*8+2,none⟩=some (.int .i64 x.r.per)∧wr.cell? ⟨b,o+k*8+3,none⟩=some (.slice x.A x.n x.c)∧wr.cell? ⟨b,o+k*8+4,none⟩=some (.int .i64 x.r.lo)∧wr.cell? ⟨b,o+k*8+5,none⟩=some (.int .i64 x.r.hi)∧wr.cell? ⟨b,o+k*8+6,none⟩=some (.int .i64 x.r.kn)∧wr.cell? ⟨b,o+k*8+7,none⟩=some (.int .i64 x.r.un):=by
 obtain ⟨b,o,e,hbB,hc⟩:=h.2 (by omega)
 obtain ⟨x,hx⟩:∃ x,xs[k]?=some x:=⟨_,List.getElem?_eq_getElem (by omega)⟩
 have g:∀ j u,j<8→(tvC x)[j]?=some u→wr.cell? ⟨b,o+k*8+j,none⟩=some u:=fun j u hj hu=>by
  have:=hc (k*8+j) u (by rw [← hu];exact flat_get tvC 8 (fun _=>rfl) xs k j x hx hj)
  rw [← Nat.add_assoc] at this
  exact (hb.cell (p:=⟨b,_,none⟩) (show b<w.heap.size by omega)).trans this
 exact ⟨b,o,x,e,hbB,hx,g 0 _ (by omega) rfl,g 1 _ (by omega) rfl,g 2 _ (by omega) rfl,g 3 _ (by omega) rfl,g 4 _ (by omega) rfl,g 5 _ (by omega) rfl,g 6 _ (by omega) rfl,g 7 _ (by omega) rfl⟩
set_option maxRecDepth 10000 in
theorem l_ixRtnR (xs:List (Tv)) (p:Tv→Bool) (q0:Nat) (A:Option Addr) (n c:Nat) (w:World) (hn:n≤1000000) (hxn:xs.length=n) (h:Rd w w.heap.size 8 A n (xs.flatMap tvC))
 (hp:∀ W,Below w.heap.size w W→∀ x∈xs,Calls Tryz.prog 126 #[.agg (tvC x).toArray,.pointer (some ⟨q0,0,none⟩)] W fun e w'=>e=.returned (.bool (p x))∧Below W.heap.size W w') :
 Calls Tryz.prog 125 #[.slice A n c,.func (.func 126) #[] #[.pointer (some ⟨q0,0,none⟩)]] w fun e w'=>e=.returned (.int .i64 (ixI (xs.findIdx? p)))∧Below w.heap.size w w':=by
 have HD:=hd_ h
 have HP:=hd_ hp
 have HXN:=hd_ hxn
 obtain ⟨q,hq⟩:∃ q,xs.findIdx? p=q:=⟨_,rfl⟩
 rw [hq]
 have HQ:=hd_ hq
 clear h hp hq hxn
 go_enter Tryz.func125,Tryz.ntmps125
 go_wp2
 go_loopw [8] (fun i wr=>∃ k:Nat,k≤n∧i=.int .i64 k∧(xs.take k).any p=false∧Below w.heap.size w wr) (fun i _=>n - (intOf i).toNat)
 case atStart=>exact ⟨0,by omega,rfl,rfl,Below.refl _ _⟩
 case round =>
  obtain ⟨k,hk,rfl,hany,hB⟩:=hrel
  have HA:=hd_ hany
  clear hany
  have hs0:w.heap.size≤wr.heap.size:=hB.size
  by_cases hlt:k<n
  ·obtain ⟨b,o,x,rfl,hb,hx,a0,a1,a2,a3,a4,a5,a6,a7⟩:=at_Rtn HD.out HXN.out hB lr_ hlt
   have hbr:b<wr.heap.size:=by omega
   have HX:=hd_ hx
   have hcall:=HP.out wr hB x (List.mem_of_getElem? hx)
   clear hx
   cases hpx:p x with
   | true =>
     rw [hpx] at hcall
     have ho:q=some k:=by rw [← HQ.out];exact ix_found HX.out hpx HA.out
     subst ho
     clear hpx
     go_wp2_with (go_at_call 126;refine hcall.mono ?_;rintro e w1 ⟨rfl,hb1⟩)
     go_ret
     exact ⟨rfl,bt_ hB hb1⟩
   | false =>
     rw [hpx] at hcall
     have HF:Hid ((xs.take (k+1)).any p=false):=by show _=_;rw [any_take_succ2 HX.out,HA.out,hpx];rfl
     clear hpx
     go_wp2_with (go_at_call 126;refine hcall.mono ?_;rintro e w1 ⟨rfl,hb1⟩)
     go_roundw
     case rel=>exact ⟨k+1,by omega,by go_num,HF.out,bt_ hB hb1⟩
     case measure=>exact ms_
  ·have hkn:Hid (k=n):=by show _=_;omega
   have ho:q=none:=by
    have:=HA.out
    rw [List.take_of_length_le (by rw [HXN.out,hkn.out];exact lr_)] at this
    rw [← HQ.out]
    exact ix_none this
   subst ho
   go_wp2
   go_ret
   exact ⟨rfl,hB⟩
set_option maxRecDepth 10000 in
theorem l_ixRtn (xs:List (Tv)) (p:Tv→Bool) (q0:Nat) (A:Option Addr) (n c:Nat) (w:World) (hn:n≤1000000) (hxn:xs.length=n) (h:Rd w w.heap.size 8 A n (xs.flatMap tvC))
 (hp:∀ W,Below w.heap.size w W→∀ x∈xs,Calls Tryz.prog 140 #[.agg (tvC x).toArray,.pointer (some ⟨q0,0,none⟩)] W fun e w'=>e=.returned (.bool (p x))∧Below W.heap.size W w') :
 Calls Tryz.prog 125 #[.slice A n c,.func (.func 140) #[] #[.pointer (some ⟨q0,0,none⟩)]] w fun e w'=>e=.returned (.int .i64 (ixI (xs.findIdx? p)))∧Below w.heap.size w w':=by
 have HD:=hd_ h
 have HP:=hd_ hp
 have HXN:=hd_ hxn
 obtain ⟨q,hq⟩:∃ q,xs.findIdx? p=q:=⟨_,rfl⟩
 rw [hq]
 have HQ:=hd_ hq
 clear h hp hq hxn
 go_enter Tryz.func125,Tryz.ntmps125
 go_wp2
 go_loopw [8] (fun i wr=>∃ k:Nat,k≤n∧i=.int .i64 k∧(xs.take k).any p=false∧Below w.heap.size w wr) (fun i _=>n - (intOf i).toNat)
 case atStart=>exact ⟨0,by omega,rfl,rfl,Below.refl _ _⟩
 case round =>
  obtain ⟨k,hk,rfl,hany,hB⟩:=hrel
  have HA:=hd_ hany
  clear hany
  have hs0:w.heap.size≤wr.heap.size:=hB.size
  by_cases hlt:k<n
  ·obtain ⟨b,o,x,rfl,hb,hx,a0,a1,a2,a3,a4,a5,a6,a7⟩:=at_Rtn HD.out HXN.out hB lr_ hlt
   have hbr:b<wr.heap.size:=by omega
   have HX:=hd_ hx
   have hcall:=HP.out wr hB x (List.mem_of_getElem? hx)
   clear hx
   cases hpx:p x with
   | true =>
     rw [hpx] at hcall
     have ho:q=some k:=by rw [← HQ.out];exact ix_found HX.out hpx HA.out
     subst ho
     clear hpx
     go_wp2_with (go_at_call 140;refine hcall.mono ?_;rintro e w1 ⟨rfl,hb1⟩)
     go_ret
     exact ⟨rfl,bt_ hB hb1⟩
   | false =>
     rw [hpx] at hcall
     have HF:Hid ((xs.take (k+1)).any p=false):=by show _=_;rw [any_take_succ2 HX.out,HA.out,hpx];rfl
     clear hpx
     go_wp2_with (go_at_call 140;refine hcall.mono ?_;rintro e w1 ⟨rfl,hb1⟩)
     go_roundw
     case rel=>exact ⟨k+1,by omega,by go_num,HF.out,bt_ hB hb1⟩
     case measure=>exact ms_
  ·have hkn:Hid (k=n):=by show _=_;omega
   have ho:q=none:=by
    have:=HA.out
    rw [List.take_of_length_le (by rw [HXN.out,hkn.out];exact lr_)] at this
    rw [← HQ.out]
    exact ix_none this
   subst ho
   go_wp2
   go_ret
   exact ⟨rfl,hB⟩
set_option maxRecDepth 10000 in
theorem l_deleteRtn (xs:List (Tv)) (p:Tv→Bool) (q0 base:Nat) (v:Value) (n:Nat) (w:World) (hn:n≤1000000) (hxn:xs.length=n) (ho:w.ownsRow base 75 8 v n (xs.flatMap tvC)) (hbase:base≤w.heap.size)
 (hp:∀ W,w.grownBy W v.ownBlock→∀ x∈xs,Calls Tryz.prog 140 #[.agg (tvC x).toArray,.pointer (some ⟨q0,0,none⟩)] W fun e w'=>e=.returned (.bool (p x))∧Below W.heap.size W w') :
 Calls Tryz.prog 139 #[v,.func (.func 140) #[] #[.pointer (some ⟨q0,0,none⟩)]] w (RetDel 75 8 base v (xs.filter fun x=>!p x).length ((xs.filter fun x=>!p x).flatMap tvC) w):=by
 obtain ⟨A,c,rfl,hcc⟩:=own_slice ho
 have hIF:=l_ixRtn xs p q0 A n c w hn hxn (Rd.of_own ho) (fun W hW=>hp W (grown_wk (grown_of_below hW) _))
 cases hf:xs.findIdx? p with
 | none =>
   rw [hf] at hIF
   have hfl:=find_filter hf
   rw [hfl,hxn]
   have HO:=hd_ ho
   clear hf hfl hp ho
   go_enter Tryz.func139,Tryz.ntmps139
   go_wp2_with (go_at_call 125;refine hIF.mono ?_;rintro e w1 ⟨rfl,hb1⟩)
   go_ret
   exact ⟨_,rfl,own_ex HO.out hb1,grown_wk (grown_of_below hb1) _,rfl⟩
 | some k0 =>
   rw [hf] at hIF
   simp only [ixI] at hIF
   have hk0:k0<n:=by rw [← hxn];exact (List.findIdx?_eq_some_iff_getElem.1 hf).1
   have hne:((k0:Int) == -1)=false:=beq_eq_false_iff_ne.2 (by omega)
   rcases ho.2 with ⟨_,h0⟩ | ⟨g,cap,cur0,hv,hbg,hh0,hnc,hcm,hsz,htk⟩
   ·omega
   obtain ⟨rfl,rfl⟩:A=some ⟨g,0,none⟩∧c=cap:=by injection hv with e1 _ e3;exact ⟨e1,e3⟩
   clear hv
   have HZ:=hd_ hsz
   have hns:n*8≤cur0.size:=by have:=Nat.mul_le_mul_right 8 hnc;omega
   have hcell:∀ m,m<xs.length*8→cur0[m]?=(xs.flatMap tvC)[m]?:=fun m hm=>by
    rw [← htk,List.getElem?_take,if_pos (by rw [← hxn];exact hm),Array.getElem?_toList]
   have HST:=hd_ (DelC.start (f:=tvC) (s:=8) (fun _=>rfl) hf hcell)
   have HP:Hid (∀ W,w.grownBy W (some g)→∀ x∈xs,Calls Tryz.prog 140 #[.agg (tvC x).toArray,.pointer (some ⟨q0,0,none⟩)] W fun e w'=>e=.returned (.bool (p x))∧Below W.heap.size W w'):=by show ∀ _,_;exact hp
   have HXN:=hd_ hxn
   have HH0:=hd_ hh0
   have hgs:g<w.heap.size:=block_lt hh0
   have hzc:∀ w,(zeroValue 75).run Tryz.prog w=.ok (.agg #[.int .i64 0,.int .i64 0,.int .i64 0,.slice none 0 0,.int .i64 0,.int .i64 0,.int .i64 0,.int .i64 0]) w:=fun w=>by kernel_rfl
   clear hp hf htk hsz hcell hh0 ho
   go_enter Tryz.func139,Tryz.ntmps139
   go_wp2_with (go_at_call 125;refine hIF.mono ?_;rintro e w1 ⟨rfl,hb1⟩)
   go_loopw [5,6] (fun si sj wr=>∃ (i j:Nat) (cur:Array Value),i<j∧j≤n∧si=.int .i64 i∧sj=.int .i64 j∧wr.heap[g]?=some (.cells cur 75 (0,0))∧DelC tvC 8 xs (fun x=>!p x) cur0 i j cur∧w.grownBy wr (some g)) (fun _ sj _=>n - (intOf sj).toNat)
   case atStart=>exact ⟨k0,k0+1,cur0,by omega,by omega,rfl,by go_num,(hb1.block g hgs).trans HH0.out,HST.out,grown_wk (grown_of_below hb1) _⟩
   case round =>
    obtain ⟨i,j,cur,hij,hjn,rfl,rfl,hh,hD,hG⟩:=hrel
    have hce:∀ m,wr.cell? ⟨g,m,none⟩=cur[m]?:=fun m=>by simp [World.cell?,hh]
    have hfz:∀ m,wr.frozen? ⟨g,m,none⟩=false:=fun m=>by simp [World.frozen?,hh]
    have hgr:g<wr.heap.size:=block_lt hh
    have HH:=hd_ hh
    have HD:=hd_ hD
    have HG:=hd_ hG
    have hcs:cur.size=cur0.size:=hD.size
    by_cases hlt:j<n
    ·obtain ⟨x,hx⟩:∃ x,xs[j]?=some x:=⟨_,List.getElem?_eq_getElem (by rw [HXN.out];exact hlt)⟩
     have HX:=hd_ hx
     have hjs:(j+1)*8≤n*8:=Nat.mul_le_mul_right 8 hlt
     have gx:∀ m u,m<8→(tvC x)[m]?=some u→wr.cell? ⟨g,j*8+m,none⟩=some u:=fun m u hm hu=>by
      rw [hce,HD.out.high _ (by omega) (by rw [HXN.out];omega),← hu]
      exact flat_get tvC 8 (fun _=>rfl) xs j m x HX.out hm
     have a0:=gx 0 _ (by omega) rfl;have a1:=gx 1 _ (by omega) rfl;have a2:=gx 2 _ (by omega) rfl;have a3:=gx 3 _ (by omega) rfl;have a4:=gx 4 _ (by omega) rfl;have a5:=gx 5 _ (by omega) rfl;have a6:=gx 6 _ (by omega) rfl;have a7:=gx 7 _ (by omega) rfl
     have gi:∀ m,m<8→∃ u,wr.cell? ⟨g,i*8+m,none⟩=some u:=fun m hm=>by
      rw [hce]
      exact ⟨_,Array.getElem?_eq_getElem (show i*8+m<cur.size by have:(i+1)*8≤j*8:=Nat.mul_le_mul_right 8 hij;omega)⟩
     obtain ⟨u0,b0⟩:=gi 0 (by omega);obtain ⟨u1,b1⟩:=gi 1 (by omega);obtain ⟨u2,b2⟩:=gi 2 (by omega);obtain ⟨u3,b3⟩:=gi 3 (by omega);obtain ⟨u4,b4⟩:=gi 4 (by omega);obtain ⟨u5,b5⟩:=gi 5 (by omega);obtain ⟨u6,b6⟩:=gi 6 (by omega);obtain ⟨u7,b7⟩:=gi 7 (by omega)
     simp only [Nat.add_zero] at a0 b0
     have hcall:=HP.out (wr.alloc (.cells (tvC x).toArray 75)) (HG.out.trans (grown_alloc wr _ (some g))) x (List.mem_of_getElem? hx)
     clear hx gx gi hh hD hG hce
     cases hpx:p x with
     | true =>
       rw [hpx] at hcall
       have HDS:=hd_ (HD.out.skip HX.out (show (fun x=>!p x) x=false by simp [hpx]))
       clear hpx
       go_wp2_with (go_at_call 140;refine hcall.mono ?_;rintro e w2 ⟨rfl,hb2⟩)
       go_roundw
       case rel =>
        exact ⟨i,j+1,cur,by omega,by omega,rfl,by go_num,(hb2.block g (by simp;omega)).trans ((Below.heap_alloc _ _ _ hgr).trans HH.out),HDS.out,(HG.out.trans (grown_alloc wr _ (some g))).trans (grown_wk (grown_of_below hb2) _)⟩
       case measure=>exact ms_
     | false =>
       rw [hpx] at hcall
       have HKP:=hd_ hpx
       clear hpx
       have hall:∀ w2,Below (wr.alloc (.cells (tvC x).toArray 75)).heap.size (wr.alloc (.cells (tvC x).toArray 75)) w2→w2.heap[g]?=some (.cells cur 75 (0,0))∧w.grownBy w2 (some g)∧BoxA w2 wr.heap.size 75 (tvC x).toArray∧w2.cell? ⟨g,i*8,none⟩=some u0∧w2.cell? ⟨g,i*8+1,none⟩=some u1∧w2.cell? ⟨g,i*8+2,none⟩=some u2∧w2.cell? ⟨g,i*8+3,none⟩=some u3∧w2.cell? ⟨g,i*8+4,none⟩=some u4∧w2.cell? ⟨g,i*8+5,none⟩=some u5∧w2.cell? ⟨g,i*8+6,none⟩=some u6∧w2.cell? ⟨g,i*8+7,none⟩=some u7:=fun w2 hb2=>by
        have hge:g<(wr.alloc (.cells (tvC x).toArray 75)).heap.size:=by simp;omega
        exact ⟨(hb2.block g hge).trans ((Below.heap_alloc _ _ _ hgr).trans HH.out),(HG.out.trans (grown_alloc wr (.cells (tvC x).toArray 75) (some g))).trans (grown_wk (grown_of_below hb2) (some g)),(BoxA.new wr 75 (tvC x).toArray).ext hb2,(hb2.cell (p:=⟨g,_,none⟩) hge).trans ((((Below.refl wr.heap.size wr).alloc lr_ (.cells (tvC x).toArray 75)).cell (p:=⟨g,_,none⟩) hgr).trans b0),(hb2.cell (p:=⟨g,_,none⟩) hge).trans ((((Below.refl wr.heap.size wr).alloc lr_ (.cells (tvC x).toArray 75)).cell (p:=⟨g,_,none⟩) hgr).trans b1),(hb2.cell (p:=⟨g,_,none⟩) hge).trans ((((Below.refl wr.heap.size wr).alloc lr_ (.cells (tvC x).toArray 75)).cell (p:=⟨g,_,none⟩) hgr).trans b2),(hb2.cell (p:=⟨g,_,none⟩) hge).trans ((((Below.refl wr.heap.size wr).alloc lr_ (.cells (tvC x).toArray 75)).cell (p:=⟨g,_,none⟩) hgr).trans b3),(hb2.cell (p:=⟨g,_,none⟩) hge).trans ((((Below.refl wr.heap.size wr).alloc lr_ (.cells (tvC x).toArray 75)).cell (p:=⟨g,_,none⟩) hgr).trans b4),(hb2.cell (p:=⟨g,_,none⟩) hge).trans ((((Below.refl wr.heap.size wr).alloc lr_ (.cells (tvC x).toArray 75)).cell (p:=⟨g,_,none⟩) hgr).trans b5),(hb2.cell (p:=⟨g,_,none⟩) hge).trans ((((Below.refl wr.heap.size wr).alloc lr_ (.cells (tvC x).toArray 75)).cell (p:=⟨g,_,none⟩) hgr).trans b6),(hb2.cell (p:=⟨g,_,none⟩) hge).trans ((((Below.refl wr.heap.size wr).alloc lr_ (.cells (tvC x).toArray 75)).cell (p:=⟨g,_,none⟩) hgr).trans b7)⟩
       have HALL:=hd_ hall
       clear hall
       go_wp2_with (go_at_call 140;refine hcall.mono ?_;rintro e w2 ⟨rfl,hb2⟩;obtain ⟨hh2,hG2,bV,c0,c1,c2,c3,c4,c5,c6,c7⟩:=HALL.out w2 hb2;have kV:=bV.cell;have zV:=bV.lt;have fz2:∀ m,w2.frozen? ⟨g,m,none⟩=false:=(fun m=>by simp [World.frozen?,hh2]);have HH2:=hd_ hh2;have HG2:=hd_ hG2;clear hh2 hG2)
       go_roundw
       case rel =>
        obtain ⟨cur',h1,h2,h3⟩:=block_setCells (tvC x) (i*8) w2 cur HH2.out
        exact ⟨i+1,j+1,cur',by omega,by omega,by go_num,by go_num,h1,DelC.take (f:=tvC) (s:=8) (fun _=>rfl) HD.out (by omega) HX.out (by simp [HKP.out]) h2 h3 (by rw [HXN.out];exact hns),HG2.out.trans (grown_setCells g (tvC x) (i*8) w2)⟩
       case measure=>exact ms_
    ·have hjn2:j=n:=by omega
     subst hjn2
     have hcz:(.agg #[.int .i64 0,.int .i64 0,.int .i64 0,.slice none 0 0,.int .i64 0,.int .i64 0,.int .i64 0,.int .i64 0]:Value).cells.size=8:=rfl
     have hZ:=HZ.out
     have hij2:i*8+(j - i)*8=j*8:=by omega
     have hcl:∀ ty,(Builtin.clear_ #[29] ty #[.slice (some ⟨g,i*8,none⟩) (j - i) (c - i)]).run Tryz.prog wr=.ok (.tuple #[]) (wr.setCells g (i*8) (Builtin.zeroCells (.agg #[.int .i64 0,.int .i64 0,.int .i64 0,.slice none 0 0,.int .i64 0,.int .i64 0,.int .i64 0,.int .i64 0]:Value).cells (j - i)).toList):=fun ty =>
      run_clear_k wr 29 75 ty _ Tryz.underlying29 hzc (by decide) (by simp [Value.cells,Value.oneCell']) g (i*8) (j - i) (c - i) (by omega)
       (fun m hm=>by rw [hcz] at hm;rw [hce,Array.getElem?_eq_getElem (show i*8+m<cur.size by omega)];rfl) (fun m hm=>hfz _)
     obtain ⟨cur',h1,h2,h3⟩:=block_setCells (Builtin.zeroCells (.agg #[.int .i64 0,.int .i64 0,.int .i64 0,.slice none 0 0,.int .i64 0,.int .i64 0,.int .i64 0,.int .i64 0]:Value).cells (j - i)).toList (i*8) wr cur HH.out
     have hfin:xs.take j=xs:=List.take_of_length_le (by rw [HXN.out];exact lr_)
     have hlow:=HD.out.low
     have hcnt:=HD.out.cnt
     rw [hfin] at hlow hcnt
     have hown:=own_of_getK (w:=wr.setCells g (i*8) (Builtin.zeroCells (.agg #[.int .i64 0,.int .i64 0,.int .i64 0,.slice none 0 0,.int .i64 0,.int .i64 0,.int .i64 0,.int .i64 0]:Value).cells (j - i)).toList) (base:=base) (g:=g) (cap:=c) (n:=i) (s:=8) (e:=75) (cur:=cur') (xs:=(xs.filter fun x=>!p x).flatMap tvC) hbg h1 (by omega) hcm (by omega) (by rw [flat_len tvC 8 (fun _=>rfl),hcnt]) (fun m hm=>by
      rw [h3 m (by omega),if_neg (by omega)]
      exact hlow m hm)
     have HOW:=hd_ hown
     have HCN:=hd_ hcnt
     clear h1 h2 h3 hfin hlow hcnt hown hce hcz hij2
     go_wp2
     go_ret
     refine ⟨_,rfl,?_,HG.out.trans (grown_setCells g _ (i*8) wr),rfl⟩
     rw [HCN.out]
     exact HOW.out
end Go.Proofs.YtmcmbicapdcfmaaGreat
