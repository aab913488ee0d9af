/- Layer 2 of the texts that the statements over histories take: Pbrq. -/
import Derived.Test.YtmcmbicapdcfmaaGreatPbpq
import Derived.Test.YtmcmbicapdcfmaaGreatPbqq
set_option linter.unusedVariables false
set_option linter.unusedSimpArgs false
set_option maxHeartbeats 16000000
namespace Go.Proofs.YtmcmbicapdcfmaaGreat
open Go.RowKit Go.Maps
def whoF (l:Led) (kn day:Int) (days:List Int) (pap leaf:Int):Int:=if (stayP (opnL l kn).M (cntR l kn) pap leaf day).2<0∨day<days.getD (stayP (opnL l kn).M (cntR l kn) pap leaf day).2.toNat 0 then (stayP (opnL l kn).M (cntR l kn) pap leaf day).1 else 0
def withR (days:List Int) (day bor:Int):Option Nat→Int
 | none=>bor
 | some k=>if day<days.getD k 0 then bor else 0
theorem wt_none {l:Led} {kn pap leaf day:Int} {days:List Int} (h0:∀ r∈l.rc,0≤r.day) (hL:lastK kn pap leaf day l.rc l.rc.length=none):whoF l kn day days pap leaf=0:=by
 rw [whoF,stayP,stayF_last l kn _ _ _ _ h0,hL]
 simp [lastV]
theorem wt_some {l:Led} {kn pap leaf day:Int} {days:List Int} {p:Nat × Int} {r:Rcp} (h0:∀ r∈l.rc,0≤r.day) (hL:lastK kn pap leaf day l.rc l.rc.length=some p) (hr:l.rc[p.1]?=some r):whoF l kn day days pap leaf=withR days day r.bor (rtIx (tellK l kn l.rt.length) l.rt r.src leaf):=by
 rw [whoF,stayP,stayF_last l kn _ _ _ _ h0,hL]
 simp only [lastV,hr,back_rt,opn_tell]
 cases rtIx (tellK l kn l.rt.length) l.rt r.src leaf with
 | none=>simp [ixI,withR]
 | some k =>
   have h1:¬ ((k:Int)<0):=by omega
   simp [ixI,withR,h1]
set_option maxRecDepth 10000 in
theorem r_With (l:Led) (v:Vw) (pap leaf day:Int) (days:List Int) (D:Option Addr) (c0:Nat) (w:World) (hl:LedOk l) (hTt:v.Tn=v.x.tn) (hd:LedIn w w.heap.size v.x l) (hT:Sq QB 1 w w.heap.size v.TA v.Tn (tellK l v.kn l.rt.length)) (hdy:Is w w.heap.size D v.Tn days) :
 Calls Tryz.prog 43 #[vwV v,.agg #[.int .i64 pap,.int .i64 leaf],.slice D v.Tn c0,.int .i64 day] w fun e w'=>e=.returned (.int .i64 (whoF l v.kn day days pap leaf))∧Below w.heap.size w w':=by
 obtain ⟨⟨pA,pn,pc,rA,rn,rc,tA,tn,tc,sA,sn,sc⟩,kn,TA,Tn,Tc,DA,Dn,Dc⟩:=v
 obtain rfl:Tn=tn:=hTt
 show Calls _ _ #[.agg #[.slice pA pn pc,.slice rA rn rc,.slice tA Tn tc,.slice sA sn sc,.int .i64 kn,.slice TA Tn Tc,.slice DA Dn Dc],_,.slice D Tn c0,_] _ fun e w'=>e=.returned (.int .i64 (whoF l kn day days pap leaf))∧Below w.heap.size w w'
 have HR:Hid (Rcs w w.heap.size rA rn l.rc):=by show Sq _ _ _ _ _ _ _;exact hd.r
 have HTL:Hid (l.rt.length=Tn):=by show _=_;exact hd.t.len
 have hrn6:rn≤1000000:=by have h:=HR.out.len;have h2:=hl.rn;omega
 have htn6:Tn≤1000000:=by have h:=HTL.out;have h2:=hl.tn;omega
 have h0:∀ r∈l.rc,0≤r.day:=fun r hr=>(hl.rc r hr).2.2.2.1
 have HDY:Hid (Is w w.heap.size D Tn days):=by show Is _ _ _ _ _;exact hdy
 have HLA:Hid (∀ (W:World) (k:Int),Below w.heap.size w W→lastI (lastK kn pap leaf day l.rc l.rc.length)=k→Calls Tryz.prog 104 #[.agg #[.slice pA pn pc,.slice rA rn rc,.slice tA Tn tc,.slice sA sn sc,.int .i64 kn,.slice TA Tn Tc,.slice DA Dn Dc],.agg #[.int .i64 pap,.int .i64 leaf],.int .i64 day] W fun e w'=>e=.returned (.int .i64 k)∧Below W.heap.size W w'):=by
  show ∀ _,_
  exact fun W k hW h=>r_last_v l ⟨⟨pA,pn,pc,rA,rn,rc,tA,Tn,tc,sA,sn,sc⟩,kn,TA,Tn,Tc,DA,Dn,Dc⟩ pap leaf day k W hrn6 (hd.now hW) h
 have HRO:Hid (∀ (W:World) (a:Nat) (x:Rcp) (k:Int),Below w.heap.size w W→l.rc[a]?=some x→ixI (rtIx (tellK l kn l.rt.length) l.rt x.src leaf)=k→Calls Tryz.prog 103 #[.agg #[.slice pA pn pc,.slice rA rn rc,.slice tA Tn tc,.slice sA sn sc,.int .i64 kn,.slice TA Tn Tc,.slice DA Dn Dc],.int .i64 a,.int .i64 leaf] W fun e w'=>e=.returned (.int .i64 k)∧Below W.heap.size W w'):=by
  show ∀ _,_
  exact fun W a x k hW ha h2=>r_returnOf_v l ⟨⟨pA,pn,pc,rA,rn,rc,tA,Tn,tc,sA,sn,sc⟩,kn,TA,Tn,Tc,DA,Dn,Dc⟩ _ a x leaf k W hrn6 htn6 rfl (hd.now hW) (hT.now abB hW) ha h2
 clear hd hT hdy hl
 cases hL:lastK kn pap leaf day l.rc l.rc.length with
 | none =>
   rw [wt_none h0 hL]
   have HLV:Hid (lastI (lastK kn pap leaf day l.rc l.rc.length)=-1):=by show _=_;rw [hL];rfl
   clear hL
   go_enter Tryz.func43,Tryz.ntmps43
   go_wp2_with fail
   refine (HLA.out _ (-1) (by exact bel_) HLV.out).mono ?_
   rintro e w3 ⟨rfl,hb3⟩
   have HB3:Below w.heap.size w w3:=bt_ (by exact bel_) hb3
   have hs3:=HB3.size
   go_wp2_with fail
   go_ret
   exact ⟨rfl,by exact bel_⟩
 | some p =>
   obtain ⟨a,dd⟩:=p
   obtain ⟨-,x,hx,-⟩:=lastK_at hL
   rw [wt_some h0 hL hx]
   have HLV:Hid (lastI (lastK kn pap leaf day l.rc l.rc.length)=(a:Int)):=by show _=_;rw [hL];rfl
   have hia:a<rn:=by rw [← HR.out.len];exact (List.getElem?_eq_some_iff.1 hx).1
   obtain ⟨bx,ox,x',rfl,hbx,hxx,A1,n1,c1,⟨-,g1,-,-,-,-,-⟩,-,-,-⟩:=HR.out.at_ hia
   obtain rfl:x=x':=Option.some.inj (hx.symm.trans hxx)
   have hxn:decide ((a:Int)<0)=false:=by simp
   obtain ⟨q,hq⟩:∃ q,rtIx (tellK l kn l.rt.length) l.rt x.src leaf=q:=⟨_,rfl⟩
   have HKI:Hid (ixI (rtIx (tellK l kn l.rt.length) l.rt x.src leaf)=ixI q):=by show _=_;rw [hq]
   have HQ:=hd_ hq
   rw [hq]
   have HX:=hd_ hx
   obtain ⟨bor,hbor⟩:∃ b,x.bor=b:=⟨_,rfl⟩
   rw [hbor] at g1 ⊢
   clear hL hx hxx hq hbor
   go_enter Tryz.func43,Tryz.ntmps43
   have bV0:=(BoxA.new w 89 #[.slice pA pn pc,.slice (some ⟨bx,ox,none⟩) rn rc,.slice tA Tn tc,.slice sA sn sc,.int .i64 kn,.slice TA Tn Tc,.slice DA Dn Dc]).alloc (.cells #[.int .i64 pap,.int .i64 leaf] 48)
   have bF0:BoxA ((w.alloc (.cells #[.slice pA pn pc,.slice (some ⟨bx,ox,none⟩) rn rc,.slice tA Tn tc,.slice sA sn sc,.int .i64 kn,.slice TA Tn Tc,.slice DA Dn Dc] 89)).alloc (.cells #[.int .i64 pap,.int .i64 leaf] 48)) (w.heap.size+1) 48 #[.int .i64 pap,.int .i64 leaf]:=by
    have h:=BoxA.new (w.alloc (.cells #[.slice pA pn pc,.slice (some ⟨bx,ox,none⟩) rn rc,.slice tA Tn tc,.slice sA sn sc,.int .i64 kn,.slice TA Tn Tc,.slice DA Dn Dc] 89)) 48 #[.int .i64 pap,.int .i64 leaf]
    simpa using h
   have HBV0:=hd_ bV0
   have HBF0:=hd_ bF0
   clear bV0 bF0
   go_wp2_with fail
   refine (HLA.out _ a (by exact bel_) HLV.out).mono ?_
   rintro e w3 ⟨rfl,hb3⟩
   have HB3:Below w.heap.size w w3:=bt_ (by exact bel_) hb3
   have hs3:=HB3.size
   have bV3:=HBV0.out.ext hb3
   have bF3:=HBF0.out.ext hb3
   have kV:=bV3.cell
   have zV:=bV3.lt
   have kF:=bF3.cell
   have zF:=bF3.lt
   have HBV3:=hd_ bV3
   clear hb3 bV3 bF3
   go_wp2_with fail
   refine (HRO.out _ a x (ixI q) HB3 HX.out HKI.out).mono ?_
   rintro e w4 ⟨rfl,hb4⟩
   have HB4:=bt_ HB3 hb4
   have hs4:=HB4.size
   have bV4:=HBV3.out.ext hb4
   clear kV zV kF zF
   have kV:=bV4.cell
   have zV:=bV4.lt
   have d1:=(HB4.cell (p:=⟨bx,ox+a*7+1,none⟩) hbx).trans g1
   have hbx4:bx<w4.heap.size:=by omega
   clear bV4 hb4
   cases q with
   | none =>
     have hneg:decide ((-1:Int)≥0)=false:=by decide
     simp only [ixI]
     go_wp2_with fail
     go_ret
     exact ⟨rfl,by exact bel_⟩
   | some i =>
     obtain ⟨-,t,ht,-,-⟩:=rt_some HQ.out
     have hit:i<Tn:=by rw [← HTL.out];exact (List.getElem?_eq_some_iff.1 ht).1
     have hin:decide ((i:Int)≥0)=true:=by simp
     have hmx:max (i:Int) 0=(i:Int):=by omega
     obtain ⟨bd,od,y,rfl,hbd,hy,hcy⟩:=HDY.out.at_ hit
     have hgd:days.getD i 0=y:=by rw [List.getD_eq_getElem?_getD,hy];rfl
     have e0:=(HB4.cell (p:=⟨bd,od+i,none⟩) hbd).trans hcy
     have hbd4:bd<w4.heap.size:=by omega
     have HRW:Hid (withR days day bor (some i)=if day<y then bor else 0):=by show _=_;simp only [withR,hgd]
     simp only [ixI]
     clear hgd hy ht hcy
     cases h1:decide (y≤day) with
     | true =>
       go_wp2_with fail
       go_ret
       rw [HRW.out,if_neg (by have:=of_decide_eq_true h1;omega)]
       exact ⟨rfl,by exact bel_⟩
     | false =>
       go_wp2_with fail
       go_ret
       rw [HRW.out,if_pos (by have:=of_decide_eq_false h1;omega)]
       exact ⟨rfl,by exact bel_⟩
theorem p_Placed_u (l:Led) (x:Lsl) (day kn pap leaf per src:Int) (days:List Int) (D:Option Addr) (m c0:Nat) (p:List Int) (v:Int) (w:World) (hf:x.fit) (hd:LedIn w w.heap.size x l) (hm:m≤9223372036854775807) (hdy:Is w w.heap.size D m days) (h:placedX l days pap day kn=(p,v)) :
 Calls Tryz.prog 14 #[.agg #[.slice x.pA x.pn x.pc,.slice x.rA x.rn x.rc,.slice x.tA x.tn x.tc,.slice x.sA x.sn x.sc],.slice D m c0,.int .i64 pap,.int .i64 day,.int .i64 kn] w (RetLE (p,v) w):=by
 have hc:=p_PlacedX l x days D m c0 pap day kn w hf hd hm hdy
 rw [h] at hc
 exact hc
theorem p_Moved_u (l:Led) (x:Lsl) (day kn pap leaf per src:Int) (days:List Int) (D:Option Addr) (m c0:Nat) (p:List (Int × Int)) (v:Int) (w:World) (hf:x.fit) (hd:LedIn w w.heap.size x l) (hm:m≤9223372036854775807) (hdy:Is w w.heap.size D m days) (h:movX l src day kn=(p,v)) :
 Calls Tryz.prog 36 #[.agg #[.slice x.pA x.pn x.pc,.slice x.rA x.rn x.rc,.slice x.tA x.tn x.tc,.slice x.sA x.sn x.sc],.int .i64 src,.int .i64 day,.int .i64 kn] w (RetFE (p,v) w):=by
 have hc:=p_MovedX l x src day kn w hf hd
 rw [h] at hc
 exact hc
theorem p_CheckTrue_u (l:Led) (x:Lsl) (kn:Int) (days:List Int) (D:Option Addr) (m c0:Nat) (v:Int) (w:World) (hf:x.fit) (hd:LedIn w w.heap.size x l) (hm:m≤9223372036854775807) (hdy:Is w w.heap.size D m days) (h:checkTrueX l kn days=v) :
 Calls Tryz.prog 13 #[.agg #[.slice x.pA x.pn x.pc,.slice x.rA x.rn x.rc,.slice x.tA x.tn x.tc,.slice x.sA x.sn x.sc],.int .i64 kn,.slice D m c0] w (fun e w'=>e=.returned (.int .i64 v)∧Below w.heap.size w w'):=h ▸ p_CheckTrue l x kn days D m c0 w hf hd hm hdy
theorem placedX_len {l:Led} {days:List Int} {pap day kn v:Int} {p:List Int} (h:placedX l days pap day kn=(p,v)):p.length≤1000000:=by
 unfold placedX at h
 split at h
 ·rename_i hv
  split at h
  ·cases h
   obtain ⟨n,hn,hn30⟩:=lv_range (led_ok (preF_zero hv)) pap
   rw [List.length_map,List.length_range,hn]
   omega
  ·cases h;simp
 ·cases h;simp
theorem movX_len {l:Led} {src day kn v:Int} {p:List (Int × Int)} (h:movX l src day kn=(p,v)):p.length≤1000000:=by
 unfold movX at h
 split at h
 ·rename_i hv
  have h2:=folL_len (led_ok (pre_zero hv).1)
  split at h
  ·split at h
   ·split at h
    ·cases h
     have h1:=List.length_filter_le (fun f=>!decide (whL l kn day f=whL (excL l src) kn day f)) (folL l.pp)
     show (List.filter _ _).length≤_
     omega
    ·cases h;simp
   ·cases h;omega
  ·cases h;simp
 ·cases h;simp
end Go.Proofs.YtmcmbicapdcfmaaGreat
namespace Go.Proofs.YtmcmbicapdcfmaaGreat
open Go.RowKit
attribute [local go_sem] Oper.semAt_some
end Go.Proofs.YtmcmbicapdcfmaaGreat
namespace Go.Proofs.YtmcmbicapdcfmaaGreat
open Go.RowKit Go.Maps Go.Shelf
end Go.Proofs.YtmcmbicapdcfmaaGreat
namespace Go.Proofs.YtmcmbicapdcfmaaGreat
open Go.RowKit Go.Maps
end Go.Proofs.YtmcmbicapdcfmaaGreat
