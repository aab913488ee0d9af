/- Layer 2 of the texts that LoanMoves takes: Mbmq. -/
import Derived.Test.YtmcmbicapdcfmaaGreatMbkq
set_option linter.unusedVariables false
set_option linter.unusedSimpArgs false
set_option maxHeartbeats 16000000
namespace Go.Proofs.YtmcmbicapdcfmaaGreat
open Go.RowKit Go.Maps
theorem wpList_app0 {P:Program} {w:World} {ops:Array Oper} {rest:List Oper} {o:Oper} {a:Act} {Q:Exit→Act→World→Prop} (hgd:o.guard=none) (s x:Operand) (t:TypeId)
 (hop:o.op=.call { callee:=.builtin .append,args:=#[s,x],argTypes:=#[t,t] })
 {base B:Nat} {e:TypeId} {i:TypeInfo} {z:Value} {size bytes:Nat} (ht:P.underlying t=some (.slice e)) (hi:P.info? e=some i) (hz:i.zero=some z)
 (hsize:i.size=size) (hby:i.bytes=bytes) (hzs:z.cells.size=size) (hsz:0<size) {v:Value} {m c:Nat} {news:List Value} {A:Option Addr} (hs:a.eval s=v) (hx:a.eval x=.slice A m c) (ho:w.ownsRow base e size v 0 [])
 (hr:Rd w B size A m news) (h1:∀ u∈news,u.oneCell'=true) (h63:m≤maxLen) (hb:m*bytes≤140737488355328) (hbase:base≤w.heap.size)
 (h:∀ v' w',w'.ownsRow base e size v' m news→w.grownBy w' v.ownBlock→Below base w w'→wpList P ops Q rest (a.put o.dst v') w'):wpList P ops Q (o :: rest) a w :=
 wpList_app2 hgd s x t hop ht hi hz hsize hby hzs hsz hs hx ho hr h1 (by omega) (by rw [Nat.zero_add];exact hb) hbase fun v' w' g1 g2 g3=>h v' w' (by simpa using g1) g2 g3
theorem step_app0 {P:Program} {w:World} {ops:Array Oper} {o:Oper} {a:Act} {K:Act→World→Prop} {Q:Exit→Act→World→Prop} {E:Prop} (hgd:o.guard=none) (s x:Operand) (t:TypeId)
 (hop:o.op=.call { callee:=.builtin .append,args:=#[s,x],argTypes:=#[t,t] })
 {base B:Nat} {e:TypeId} {i:TypeInfo} {z:Value} {size bytes:Nat} (ht:P.underlying t=some (.slice e)) (hi:P.info? e=some i) (hz:i.zero=some z)
 (hsize:i.size=size) (hby:i.bytes=bytes) (hzs:z.cells.size=size) (hsz:0<size) {v:Value} {m c:Nat} {news:List Value} {A:Option Addr} (hs:a.eval s=v) (hx:a.eval x=.slice A m c) (ho:w.ownsRow base e size v 0 [])
 (hr:Rd w B size A m news) (h1:∀ u∈news,u.oneCell'=true) (h63:m≤maxLen) (hb:m*bytes≤140737488355328) (hbase:base≤w.heap.size)
 (h:∀ v' w',w'.ownsRow base e size v' m news→w.grownBy w' v.ownBlock→Below base w w'→K (a.put o.dst v') w') :
 if Region.wanted o (yielded ops a.tmps)=true then Oper.wp P o a w K Q else E :=
 step_app hgd s x t hop ht hi hz hsize hby hzs hsz hs hx ho hr h1 (by omega) (by rw [Nat.zero_add];exact hb) hbase fun v' w' g1 g2=>h v' w' (by simpa using g1) g2 ((Below.refl base w).grown g2 hbase fun k e=>own_le ho e)
structure CcS (w W:World) (LC OC:Array Value) (qo:Nat):Prop where
 hB:Below w.heap.size w W
 bL:BoxA W w.heap.size 32 LC
 bZ:BoxA W (w.heap.size+1) 32 #[.slice none 0 0,.slice none 0 0,.slice none 0 0,.slice none 0 0]
 bO:BoxA W qo 32 OC
 zq:w.heap.size+2≤qo
theorem CcS.ext {w W W':World} {LC OC:Array Value} {qo:Nat} (h:CcS w W LC OC qo) (hb:Below W.heap.size W W'):CcS w W' LC OC qo:=⟨bt_ h.hB hb,h.bL.ext hb,h.bZ.ext hb,h.bO.ext hb,h.zq⟩
theorem CcS.grow {w W W':World} {LC OC:Array Value} {qo:Nat} (h:CcS w W LC OC qo) {base s n:Nat} {t:TypeId} {v:Value} {xs:List Value} (ho:W.ownsRow base t s v n xs) (ht:32≠t) (hbase:w.heap.size≤base) (hg:W.grownBy W' v.ownBlock):CcS w W' LC OC qo :=
 ⟨h.hB.grown hg h.hB.size fun b hb=>Nat.le_trans hbase (own_le ho hb),h.bL.kept hg (own_ne ho h.bL ht),h.bZ.kept hg (own_ne ho h.bZ ht),h.bO.kept hg (own_ne ho h.bO ht),h.zq⟩
theorem CcS.set {w W:World} {LC OC:Array Value} {qo:Nat} (h:CcS w W LC OC qo) (o:Nat) (u:Value):CcS w (W.setCell ⟨qo,o,none⟩ u) LC (OC.setIfInBounds o u) qo:=by
 have hz:=h.zq
 exact ⟨h.hB.setCell (show w.heap.size≤qo by omega) _,h.bL.other (show w.heap.size≠qo by omega) _,h.bZ.other (show w.heap.size+1≠qo by omega) _,h.bO.set o u,hz⟩
theorem CcS.far {w W:World} {LC OC:Array Value} {qo:Nat} (h:CcS w W LC OC qo) (g o:Nat) (u:Value) (hg:w.heap.size+2≤g) (hq:qo≠g):CcS w (W.setCell ⟨g,o,none⟩ u) LC OC qo :=
 ⟨h.hB.setCell (show w.heap.size≤g by omega) _,h.bL.other (show w.heap.size≠g by omega) _,h.bZ.other (show w.heap.size+1≠g by omega) _,h.bO.other hq _,h.zq⟩
theorem cc_fin {w V1 cur:World} {LC:Array Value} {qo:Nat} {u0 u1 u2 u3:Value} {s1 s2 n1 n2:Nat} {v1 v2:Value} {l1 l2:List Value} (hV:CpS w V1 LC∧w.heap.size+2≤V1.heap.size) (hC:Below V1.heap.size V1 cur) (hq:BoxA cur qo 32 #[.slice none 0 0,.slice none 0 0,.slice none 0 0,.slice none 0 0]) (hz:V1.heap.size≤qo)
 (hp:cur.ownsRow V1.heap.size 38 s1 v1 n1 l1) (hs:cur.ownsRow V1.heap.size 70 s2 v2 n2 l2) :
 CcS w (cur.setCells qo 0 [u0,u1,u2,u3]) LC #[u0,u1,u2,u3] qo∧(cur.setCells qo 0 [u0,u1,u2,u3]).ownsRow (w.heap.size+2) 38 s1 v1 n1 l1∧(cur.setCells qo 0 [u0,u1,u2,u3]).ownsRow (w.heap.size+2) 70 s2 v2 n2 l2:=by
 have hg:=grown_setCells qo [u0,u1,u2,u3] 0 cur
 obtain ⟨h,h2⟩:=hV
 have h':=h.ext hC
 refine ⟨⟨h'.hB.grown hg h'.hB.size (fun b e=>by cases e;omega),h'.bL.kept hg (fun e=>by injection e with e;omega),h'.bZ.kept hg (fun e=>by injection e with e;omega),hq.setAll [u0,u1,u2,u3] rfl,by omega⟩,?_,?_⟩
 ·exact (own_dn hp h2).kept hg (by
   cases hb:v1.ownBlock with
   | none=>exact .inl rfl
   | some b=>exact .inr fun e=>own_ne hp hq (by decide) (by rw [hb,e]))
 ·exact (own_dn hs h2).kept hg (by
   cases hb:v2.ownBlock with
   | none=>exact .inl rfl
   | some b=>exact .inr fun e=>own_ne hs hq (by decide) (by rw [hb,e]))
theorem own_bset {w:World} {base size n B o:Nat} {t T:TypeId} {v:Value} {xs:List Value} {cs:Array Value} (h:w.ownsRow base t size v n xs) (hb:BoxA w B T cs) (ht:t≠T) (u:Value):(w.setCell ⟨B,o,none⟩ u).ownsRow base t size v n xs :=
 own_keep h fun b hb9=>Below.heap_setCell _ _ _ _ (own_box h hb9 hb ht)
structure CkR (W:World) (base:Nat) (R:List Rcp) (ys:List Rv) (k:Nat):Prop where
 r:ys.map Rv.r=R.take k
 own:∀ v∈ys,W.ownsRow base 3 1 (.slice v.A v.n v.c) v.n (intL v.r.lv)
structure CkT (W:World) (base:Nat) (R:List Rtn) (ys:List Tv) (k:Nat):Prop where
 r:ys.map Tv.r=R.take k
 own:∀ v∈ys,W.ownsRow base 3 1 (.slice v.A v.n v.c) v.n (intL v.r.lv)
set_option maxRecDepth 10000 in
theorem r_Copy (l:Led) (x:Lsl) (w:World) (hl:LedOk l) (hd:LedIn w w.heap.size x l) :
 Calls Tryz.prog 100 #[.agg #[.slice x.pA x.pn x.pc,.slice x.rA x.rn x.rc,.slice x.tA x.tn x.tc,.slice x.sA x.sn x.sc]] w (RetCop l w):=by
 obtain ⟨pA,pn,pc,rA,rn,rc,tA,tn,tc,sA,sn,sc⟩:=x
 show Calls _ _ #[.agg #[.slice pA pn pc,.slice rA rn rc,.slice tA tn tc,.slice sA sn sc]] _ _
 obtain ⟨i0,hi0,hiz0,hiz1,hiz2⟩:=info_parts infoClPaper
 obtain ⟨j0,hj0,hjz0,hjz1,hjz2⟩:=info_parts infoClSight
 obtain ⟨m0,hm0,hmz0,hmz1,hmz2⟩:=info_parts infoClInt2
 obtain ⟨r0,hr0,hrz0,hrz1,hrz2⟩:=info_parts infoClRcpt
 obtain ⟨t0,ht0,htz0,htz1,htz2⟩:=info_parts infoClRetn
 obtain ⟨xs,hxs,hx⟩:=rvs_of hd.r
 obtain ⟨ts,hts,ht,htv⟩:=tvs_of hd.t
 have hpn:pn≤12:=by have h1:=hl.pn;have h2:l.pp.length=pn:=hd.p.len;omega
 have hrn:rn≤60:=by have h1:=hl.rn;have h2:l.rc.length=rn:=hd.r.len;omega
 have htn:tn≤60:=by have h1:=hl.tn;have h2:l.rt.length=tn:=hd.t.len;omega
 have hsn:sn≤60:=by have h1:=hl.sn;have h2:l.sg.length=sn:=hd.s.len;omega
 have HX:Hid (Sq QV 7 w w.heap.size rA rn xs):=by show Sq _ _ _ _ _ _ _;exact hx
 have HTT:Hid (Rd w w.heap.size 8 tA tn (ts.flatMap tvC)):=by show Rd _ _ _ _ _ _;exact ht
 have hTL:ts.length=tn:=by have h1:(ts.flatMap tvC).length=tn*8:=ht.1;rw [flat_len tvC 8 (fun _=>rfl)] at h1;omega
 have HTL:=hd_ hTL
 have HRV:Hid (∀ v∈xs,v.n≤30):=by
  show ∀ _,_
  intro v hv
  have h1:=(hl.rc v.r (by rw [← hxs];exact List.mem_map.2 ⟨v,hv,rfl⟩)).1
  obtain ⟨k,hk⟩:=List.getElem?_of_mem hv
  have hkn:k<rn:=by have:=(List.getElem?_eq_some_iff.1 hk).1;rw [hx.len] at this;exact this
  obtain ⟨b,o,y,_,_,hy,_,hi,_⟩:=hx.at_ hkn
  rw [hk] at hy
  cases hy
  rw [← hi.len];exact h1
 have HTV:Hid (∀ v∈ts,Is w w.heap.size v.A v.n v.r.lv∧v.n≤30):=by
  show ∀ _,_
  intro v hv
  have h1:=(hl.rt v.r (by rw [← hts];exact List.mem_map.2 ⟨v,hv,rfl⟩)).1
  have hi:=(htv v hv).1
  exact ⟨hi,by rw [← hi.len];exact h1⟩
 have HXS:=hd_ hxs
 have HTS:=hd_ hts
 have HRL:Hid (l.rc.length=rn):=by show _=_;exact hd.r.len
 have HTL2:Hid (l.rt.length=tn):=by show _=_;exact hd.t.len
 have hV0:=CpS.new w #[.slice pA pn pc,.slice rA rn rc,.slice tA tn tc,.slice sA sn sc]
 obtain ⟨W0,hW0⟩:∃ W0,W0=(w.alloc (.cells #[.slice pA pn pc,.slice rA rn rc,.slice tA tn tc,.slice sA sn sc] 32)).alloc (.cells #[.slice none 0 0,.slice none 0 0,.slice none 0 0,.slice none 0 0] 32):=⟨_,rfl⟩
 have hW2:w.heap.size+2≤W0.heap.size:=by rw [hW0];simp
 rw [← hW0] at hV0
 have HPP:Hid (Rd W0 W0.heap.size 2 pA pn (l.pp.flatMap ppC)):=by show Rd _ _ _ _ _ _;exact (rd_pp hd.p).now hV0.hB
 have HSS:Hid (Rd W0 W0.heap.size 7 sA sn (l.sg.flatMap sgC)):=by show Rd _ _ _ _ _ _;exact (rd_sg hd.s).now hV0.hB
 have HW0:=hd_ hW0
 clear hxs hts hx ht htv hd hl hW0 hTL
 go_enter Tryz.func100,Tryz.ntmps100
 go_wp2
 refine wp_named2 fun f1 V1 hf1 hV1=>?_
 obtain rfl:V1=W0:=by rw [← hV1,HW0.out]
 clear hV1
 refine wp_cut2 (fun a' W'=>∃ qo A1 c1 A4 c4,IsFr2 (fun u=>{ tmps:=#[.agg #[.slice pA pn pc,.slice rA rn rc,.slice tA tn tc,.slice sA sn sc],.pointer (some ⟨w.heap.size,0,none⟩),.pointer (some ⟨w.heap.size+1,0,none⟩),.pointer (some ⟨qo,0,none⟩),u 4,u 5,u 6,u 7,u 8,u 9,u 10,u 11,u 12,u 13,u 14,u 15,u 16,u 17,u 18,u 19,u 20,u 21,u 22,u 23,u 24,u 25,u 26,u 27,u 28,u 29,u 30,u 31,u 32,u 33,u 34,u 35,u 36,u 37,u 38,u 39,u 40,u 41,u 42,u 43,u 44,u 45,u 46,u 47,u 48,u 49,u 50,u 51,u 52,u 53,u 54,u 55,u 56,u 57,u 58,u 59,u 60,u 61,u 62,u 63],defers:=[] }) a'∧CcS w W' #[.slice pA pn pc,.slice rA rn rc,.slice tA tn tc,.slice sA sn sc] #[.slice A1 pn c1,.slice none 0 0,.slice none 0 0,.slice A4 sn c4] qo∧W'.ownsRow (w.heap.size+2) 38 2 (.slice A1 pn c1) pn (l.pp.flatMap ppC)∧W'.ownsRow (w.heap.size+2) 70 7 (.slice A4 sn c4) sn (l.sg.flatMap sgC)) ?reg ?rest
 case reg =>
  subst hf1
  (refine wp_region_held_lit (S:=S1 w.heap.size (w.heap.size+1) #[.slice pA pn pc,.slice rA rn rc,.slice tA tn tc,.slice sA sn sc] #[.slice none 0 0,.slice none 0 0,.slice none 0 0,.slice none 0 0]) 11 (by kernel_rfl) rfl ⟨hV0.bL.cell,hV0.bZ.cell,hV0.bL.lt,hV0.bZ.lt⟩ (fun hS=>?_);simp only [List.reduceReplicate,Array.replicate_succ,Array.replicate_zero])
  obtain ⟨c0,hc0⟩:∃ c,c=V1.drew:=⟨_,rfl⟩
  have hC:Below V1.heap.size V1 V1.drew:=(Below.refl _ _).drew
  have hV0:=And.intro hV0 hW2
  rw [← hc0] at hC hS ⊢
  clear hc0
  (refine tk_ (i:=1) (v:=?_) rfl ?_ hS ?_;rotate_left;focus (intro w2 hw2;(try unfold S1 at hw2);go_split_ands;go_simp;first | done | with_reducible rfl);(try simp only [Act.put,pu1,pu2,pu3]))
  (refine tk_ (i:=2) (v:=?_) rfl ?_ hS ?_;rotate_left;focus (intro w2 hw2;(try unfold S1 at hw2);go_split_ands;go_simp;first | done | with_reducible rfl);(try simp only [Act.put,pu1,pu2,pu3]))
  (refine tk_ (i:=5) (v:=?_) rfl ?_ hS ?_;rotate_left;focus (intro w2 hw2;(try unfold S1 at hw2);go_split_ands;go_simp;first | done | with_reducible rfl);(try simp only [Act.put,pu1,pu2,pu3]))
  (refine tk_ (i:=6) (v:=?_) rfl ?_ hS ?_;rotate_left;focus (intro w2 hw2;(try unfold S1 at hw2);go_split_ands;go_simp;first | done | with_reducible rfl);(try simp only [Act.put,pu1,pu2,pu3]))
  refine rd_ [0,4,9] ?_
  refine AllReadyH.cons rfl (fun K hK=>?_) (AllReadyH.cons rfl (fun K hK=>?_) (AllReadyH.cons rfl (fun K hK=>?_) AllReadyH.nil))
  ·go_simp
   refine hK.out _ _ (S1.ext ((Below.refl _ _).alloc lr_ (.cells #[] 38)) hS) (fun hS=>?_)
   clear hK K
   (try simp only [Act.put,pu1,pu2,pu3])
   have hb:Below c0.heap.size c0 (c0.alloc (.cells #[] 38)):=(Below.refl _ _).alloc lr_ _
   have hnew:(c0.alloc (.cells #[] 38)).ownsRow V1.heap.size 38 2 (.slice (some ⟨c0.heap.size,0,none⟩) 0 0) 0 []:=own_emptyB2 _ _ _ _ hC.size
   have hzn:V1.heap.size≤c0.heap.size:=hC.size
   have hC:=bt_ hC hb
   obtain ⟨w_1,hw_1⟩:∃ W,W=c0.alloc (.cells #[] 38):=⟨_,rfl⟩
   rw [← hw_1] at hC hS hnew
   change wpAnyH _ _ _ _ _ _ _ _ (c0.alloc (.cells #[] 38))
   rw [← hw_1]
   obtain ⟨bp,hbp⟩:∃ B,B=c0.heap.size:=⟨_,rfl⟩
   rw [← hbp] at hnew hzn ⊢
   have hp:=hnew
   have hzp:=hzn
   clear hw_1 hbp hb
   refine rd_ [3,4,9] ?_
   refine AllReadyH.cons rfl (fun K hK=>?_) (AllReadyH.cons rfl (fun K hK=>?_) (AllReadyH.cons rfl (fun K hK=>?_) AllReadyH.nil))
   ·(refine step_app0 (by rfl) (.tmp 8) (.tmp 10) 27 (by rfl) (base:=V1.heap.size) (B:=V1.heap.size) (e:=38) (i:=i0) (size:=2) (bytes:=16) Tryz.underlying27 hi0 hiz0 hiz1 hiz2 rfl (by decide) (by rfl) (by rfl) hp (m:=pn) (HPP.out.ext hC lr_) (flat_ones pp_one _) (by unfold maxLen;omega) (by omega) hC.size ?_)
    intro v_ w_2 hnew hg hbA
    obtain ⟨A1,c1,rfl,hccA1⟩:=own_slice hnew
    have hrow:=hp
    have hg:w_1.grownBy w_2 (Value.slice (some ⟨bp,0,none⟩) 0 0).ownBlock:=hg
    have hC:=hC.trans hbA
    refine hK.out _ _ (S1.grown (B:=bp) hg hS (by omega) (by omega)) (fun hS=>?_)
    clear hK K
    (try simp only [Act.put,pu1,pu2,pu3])
    have hp:=hnew
    clear hrow hg hbA
    refine rd_ [4,9] ?_
    refine AllReadyH.cons rfl (fun K hK=>?_) (AllReadyH.cons rfl (fun K hK=>?_) AllReadyH.nil)
    ·go_simp
     refine hK.out _ _ (S1.ext ((Below.refl _ _).alloc lr_ (.cells #[] 70)) hS) (fun hS=>?_)
     clear hK K
     (try simp only [Act.put,pu1,pu2,pu3])
     have hb:Below w_2.heap.size w_2 (w_2.alloc (.cells #[] 70)):=(Below.refl _ _).alloc lr_ _
     have hnew:(w_2.alloc (.cells #[] 70)).ownsRow V1.heap.size 70 7 (.slice (some ⟨w_2.heap.size,0,none⟩) 0 0) 0 []:=own_emptyB2 _ _ _ _ hC.size
     have hzn:V1.heap.size≤w_2.heap.size:=hC.size
     have hC:=bt_ hC hb
     have hp:=own_ex hp hb
     obtain ⟨w_3,hw_3⟩:∃ W,W=w_2.alloc (.cells #[] 70):=⟨_,rfl⟩
     rw [← hw_3] at hC hS hnew hp
     change wpAnyH _ _ _ _ _ _ _ _ (w_2.alloc (.cells #[] 70))
     rw [← hw_3]
     obtain ⟨bs,hbs⟩:∃ B,B=w_2.heap.size:=⟨_,rfl⟩
     rw [← hbs] at hnew hzn ⊢
     have hs:=hnew
     have hzs:=hzn
     clear hw_3 hbs hb
     refine rd_ [7,9] ?_
     refine AllReadyH.cons rfl (fun K hK=>?_) (AllReadyH.cons rfl (fun K hK=>?_) AllReadyH.nil)
     ·(refine step_app0 (by rfl) (.tmp 12) (.tmp 14) 30 (by rfl) (base:=V1.heap.size) (B:=V1.heap.size) (e:=70) (i:=j0) (size:=7) (bytes:=56) Tryz.underlying30 hj0 hjz0 hjz1 hjz2 rfl (by decide) (by rfl) (by rfl) hs (m:=sn) (HSS.out.ext hC lr_) (flat_ones sg_one _) (by unfold maxLen;omega) (by omega) hC.size ?_)
      intro v_ w_4 hnew hg hbA
      obtain ⟨A4,c4,rfl,hccA4⟩:=own_slice hnew
      have hrow:=hs
      have hg:w_3.grownBy w_4 (Value.slice (some ⟨bs,0,none⟩) 0 0).ownBlock:=hg
      have hC:=hC.trans hbA
      refine hK.out _ _ (S1.grown (B:=bs) hg hS (by omega) (by omega)) (fun hS=>?_)
      clear hK K
      (try simp only [Act.put,pu1,pu2,pu3])
      have hp:=own_other hp hrow ty_ne.2.2.1 hg
      have hs:=hnew
      clear hrow hg hbA
      (refine tk_ (i:=8) (v:=?_) rfl ?_ hS ?_;rotate_left;focus (intro w2 hw2;(try unfold S1 at hw2);go_split_ands;go_simp;first | done | with_reducible rfl);(try simp only [Act.put,pu1,pu2,pu3]))
      refine rd_ [9] ?_
      refine ah1 rfl fun K hK=>?_
      go_simp
      refine hK.out _ _ (S1.ext ((Below.refl _ _).alloc lr_ (.cells #[.slice none 0 0,.slice none 0 0,.slice none 0 0,.slice none 0 0] 32)) hS) (fun hS=>?_)
      clear hK K
      (try simp only [Act.put,pu1,pu2,pu3])
      have hb:Below w_4.heap.size w_4 (w_4.alloc (.cells #[.slice none 0 0,.slice none 0 0,.slice none 0 0,.slice none 0 0] 32)):=(Below.refl _ _).alloc lr_ _
      have hnew:BoxA (w_4.alloc (.cells #[.slice none 0 0,.slice none 0 0,.slice none 0 0,.slice none 0 0] 32)) w_4.heap.size 32 #[.slice none 0 0,.slice none 0 0,.slice none 0 0,.slice none 0 0]:=BoxA.new _ _ _
      have hzn:V1.heap.size≤w_4.heap.size:=hC.size
      have hC:=bt_ hC hb
      have hp:=own_ex hp hb
      have hs:=own_ex hs hb
      obtain ⟨w_5,hw_5⟩:∃ W,W=w_4.alloc (.cells #[.slice none 0 0,.slice none 0 0,.slice none 0 0,.slice none 0 0] 32):=⟨_,rfl⟩
      rw [← hw_5] at hC hS hnew hp hs
      change wpAnyH _ _ _ _ _ _ _ _ (w_4.alloc (.cells #[.slice none 0 0,.slice none 0 0,.slice none 0 0,.slice none 0 0] 32))
      rw [← hw_5]
      obtain ⟨qo,hqo⟩:∃ B,B=w_4.heap.size:=⟨_,rfl⟩
      rw [← hqo] at hnew hzn ⊢
      have hq:=hnew
      have hz:=hzn
      clear hw_5 hqo hb
      have kq:=hq.cell
      have zq:=hq.lt
      have fq:=hq.frozen
      refine rd_ [10] ?_
      refine ah1 rfl fun K hK=>?_
      go_simp
      refine hK.out _ _ (S1.grown (grown_setCells qo [.slice A1 pn c1,.slice none 0 0,.slice none 0 0,.slice A4 sn c4] 0 w_5) hS (by omega) (by omega)) (fun hS=>?_)
      clear hK K kq zq fq
      (try simp only [Act.put,pu1,pu2,pu3])
      refine wpAnyH_done (by kernel_rfl) ?_ _
      exact ⟨qo,A1,c1,A4,c4,IsFr2.of rfl,cc_fin hV0 hC hq hz hp hs⟩
     ·go_simp
      refine hK.out _ _ (S1.ext ((Below.refl _ _).alloc lr_ (.cells #[.slice none 0 0,.slice none 0 0,.slice none 0 0,.slice none 0 0] 32)) hS) (fun hS=>?_)
      clear hK K
      (try simp only [Act.put,pu1,pu2,pu3])
      have hb:Below w_3.heap.size w_3 (w_3.alloc (.cells #[.slice none 0 0,.slice none 0 0,.slice none 0 0,.slice none 0 0] 32)):=(Below.refl _ _).alloc lr_ _
      have hnew:BoxA (w_3.alloc (.cells #[.slice none 0 0,.slice none 0 0,.slice none 0 0,.slice none 0 0] 32)) w_3.heap.size 32 #[.slice none 0 0,.slice none 0 0,.slice none 0 0,.slice none 0 0]:=BoxA.new _ _ _
      have hzn:V1.heap.size≤w_3.heap.size:=hC.size
      have hC:=bt_ hC hb
      have hp:=own_ex hp hb
      have hs:=own_ex hs hb
      obtain ⟨w_6,hw_6⟩:∃ W,W=w_3.alloc (.cells #[.slice none 0 0,.slice none 0 0,.slice none 0 0,.slice none 0 0] 32):=⟨_,rfl⟩
      rw [← hw_6] at hC hS hnew hp hs
      change wpAnyH _ _ _ _ _ _ _ _ (w_3.alloc (.cells #[.slice none 0 0,.slice none 0 0,.slice none 0 0,.slice none 0 0] 32))
      rw [← hw_6]
      obtain ⟨qo,hqo⟩:∃ B,B=w_3.heap.size:=⟨_,rfl⟩
      rw [← hqo] at hnew hzn ⊢
      have hq:=hnew
      have hz:=hzn
      clear hw_6 hqo hb
      refine rd_ [7] ?_
      refine ah1 rfl fun K hK=>?_
      (refine step_app0 (by rfl) (.tmp 12) (.tmp 14) 30 (by rfl) (base:=V1.heap.size) (B:=V1.heap.size) (e:=70) (i:=j0) (size:=7) (bytes:=56) Tryz.underlying30 hj0 hjz0 hjz1 hjz2 rfl (by decide) (by rfl) (by rfl) hs (m:=sn) (HSS.out.ext hC lr_) (flat_ones sg_one _) (by unfold maxLen;omega) (by omega) hC.size ?_)
      intro v_ w_7 hnew hg hbA
      obtain ⟨A4,c4,rfl,hccA4⟩:=own_slice hnew
      have hrow:=hs
      have hg:w_6.grownBy w_7 (Value.slice (some ⟨bs,0,none⟩) 0 0).ownBlock:=hg
      have hC:=hC.trans hbA
      refine hK.out _ _ (S1.grown (B:=bs) hg hS (by omega) (by omega)) (fun hS=>?_)
      clear hK K
      (try simp only [Act.put,pu1,pu2,pu3])
      have hp:=own_other hp hrow ty_ne.2.2.1 hg
      have hq:=hq.kept hg (own_ne hrow hq (by decide))
      have hs:=hnew
      clear hrow hg hbA
      (refine tk_ (i:=8) (v:=?_) rfl ?_ hS ?_;rotate_left;focus (intro w2 hw2;(try unfold S1 at hw2);go_split_ands;go_simp;first | done | with_reducible rfl);(try simp only [Act.put,pu1,pu2,pu3]))
      have kq:=hq.cell
      have zq:=hq.lt
      have fq:=hq.frozen
      refine rd_ [10] ?_
      refine ah1 rfl fun K hK=>?_
      go_simp
      refine hK.out _ _ (S1.grown (grown_setCells qo [.slice A1 pn c1,.slice none 0 0,.slice none 0 0,.slice A4 sn c4] 0 w_7) hS (by omega) (by omega)) (fun hS=>?_)
      clear hK K kq zq fq
      (try simp only [Act.put,pu1,pu2,pu3])
      refine wpAnyH_done (by kernel_rfl) ?_ _
      exact ⟨qo,A1,c1,A4,c4,IsFr2.of rfl,cc_fin hV0 hC hq hz hp hs⟩
    ·go_simp
     refine hK.out _ _ (S1.ext ((Below.refl _ _).alloc lr_ (.cells #[.slice none 0 0,.slice none 0 0,.slice none 0 0,.slice none 0 0] 32)) hS) (fun hS=>?_)
     clear hK K
     (try simp only [Act.put,pu1,pu2,pu3])
     have hb:Below w_2.heap.size w_2 (w_2.alloc (.cells #[.slice none 0 0,.slice none 0 0,.slice none 0 0,.slice none 0 0] 32)):=(Below.refl _ _).alloc lr_ _
     have hnew:BoxA (w_2.alloc (.cells #[.slice none 0 0,.slice none 0 0,.slice none 0 0,.slice none 0 0] 32)) w_2.heap.size 32 #[.slice none 0 0,.slice none 0 0,.slice none 0 0,.slice none 0 0]:=BoxA.new _ _ _
     have hzn:V1.heap.size≤w_2.heap.size:=hC.size
     have hC:=bt_ hC hb
     have hp:=own_ex hp hb
     obtain ⟨w_8,hw_8⟩:∃ W,W=w_2.alloc (.cells #[.slice none 0 0,.slice none 0 0,.slice none 0 0,.slice none 0 0] 32):=⟨_,rfl⟩
     rw [← hw_8] at hC hS hnew hp
     change wpAnyH _ _ _ _ _ _ _ _ (w_2.alloc (.cells #[.slice none 0 0,.slice none 0 0,.slice none 0 0,.slice none 0 0] 32))
     rw [← hw_8]
     obtain ⟨qo,hqo⟩:∃ B,B=w_2.heap.size:=⟨_,rfl⟩
     rw [← hqo] at hnew hzn ⊢
     have hq:=hnew
     have hz:=hzn
     clear hw_8 hqo hb
     refine rd_ [4] ?_
     refine ah1 rfl fun K hK=>?_
     go_simp
     refine hK.out _ _ (S1.ext ((Below.refl _ _).alloc lr_ (.cells #[] 70)) hS) (fun hS=>?_)
     clear hK K
     (try simp only [Act.put,pu1,pu2,pu3])
     have hb:Below w_8.heap.size w_8 (w_8.alloc (.cells #[] 70)):=(Below.refl _ _).alloc lr_ _
     have hnew:(w_8.alloc (.cells #[] 70)).ownsRow V1.heap.size 70 7 (.slice (some ⟨w_8.heap.size,0,none⟩) 0 0) 0 []:=own_emptyB2 _ _ _ _ hC.size
     have hzn:V1.heap.size≤w_8.heap.size:=hC.size
     have hC:=bt_ hC hb
     have hp:=own_ex hp hb
     have hq:=hq.ext hb
     obtain ⟨w_9,hw_9⟩:∃ W,W=w_8.alloc (.cells #[] 70):=⟨_,rfl⟩
     rw [← hw_9] at hC hS hnew hp hq
     change wpAnyH _ _ _ _ _ _ _ _ (w_8.alloc (.cells #[] 70))
     rw [← hw_9]
     obtain ⟨bs,hbs⟩:∃ B,B=w_8.heap.size:=⟨_,rfl⟩
     rw [← hbs] at hnew hzn ⊢
     have hs:=hnew
     have hzs:=hzn
     clear hw_9 hbs hb
     refine rd_ [7] ?_
     refine ah1 rfl fun K hK=>?_
     (refine step_app0 (by rfl) (.tmp 12) (.tmp 14) 30 (by rfl) (base:=V1.heap.size) (B:=V1.heap.size) (e:=70) (i:=j0) (size:=7) (bytes:=56) Tryz.underlying30 hj0 hjz0 hjz1 hjz2 rfl (by decide) (by rfl) (by rfl) hs (m:=sn) (HSS.out.ext hC lr_) (flat_ones sg_one _) (by unfold maxLen;omega) (by omega) hC.size ?_)
     intro v_ w_10 hnew hg hbA
     obtain ⟨A4,c4,rfl,hccA4⟩:=own_slice hnew
     have hrow:=hs
     have hg:w_9.grownBy w_10 (Value.slice (some ⟨bs,0,none⟩) 0 0).ownBlock:=hg
     have hC:=hC.trans hbA
     refine hK.out _ _ (S1.grown (B:=bs) hg hS (by omega) (by omega)) (fun hS=>?_)
     clear hK K
     (try simp only [Act.put,pu1,pu2,pu3])
     have hp:=own_other hp hrow ty_ne.2.2.1 hg
     have hq:=hq.kept hg (own_ne hrow hq (by decide))
     have hs:=hnew
     clear hrow hg hbA
     (refine tk_ (i:=8) (v:=?_) rfl ?_ hS ?_;rotate_left;focus (intro w2 hw2;(try unfold S1 at hw2);go_split_ands;go_simp;first | done | with_reducible rfl);(try simp only [Act.put,pu1,pu2,pu3]))
     have kq:=hq.cell
     have zq:=hq.lt
     have fq:=hq.frozen
     refine rd_ [10] ?_
     refine ah1 rfl fun K hK=>?_
     go_simp
     refine hK.out _ _ (S1.grown (grown_setCells qo [.slice A1 pn c1,.slice none 0 0,.slice none 0 0,.slice A4 sn c4] 0 w_10) hS (by omega) (by omega)) (fun hS=>?_)
     clear hK K kq zq fq
     (try simp only [Act.put,pu1,pu2,pu3])
     refine wpAnyH_done (by kernel_rfl) ?_ _
     exact ⟨qo,A1,c1,A4,c4,IsFr2.of rfl,cc_fin hV0 hC hq hz hp hs⟩
   ·go_simp
    refine hK.out _ _ (S1.ext ((Below.refl _ _).alloc lr_ (.cells #[] 70)) hS) (fun hS=>?_)
    clear hK K
    (try simp only [Act.put,pu1,pu2,pu3])
    have hb:Below w_1.heap.size w_1 (w_1.alloc (.cells #[] 70)):=(Below.refl _ _).alloc lr_ _
    have hnew:(w_1.alloc (.cells #[] 70)).ownsRow V1.heap.size 70 7 (.slice (some ⟨w_1.heap.size,0,none⟩) 0 0) 0 []:=own_emptyB2 _ _ _ _ hC.size
    have hzn:V1.heap.size≤w_1.heap.size:=hC.size
    have hC:=bt_ hC hb
    have hp:=own_ex hp hb
    obtain ⟨w_11,hw_11⟩:∃ W,W=w_1.alloc (.cells #[] 70):=⟨_,rfl⟩
    rw [← hw_11] at hC hS hnew hp
    change wpAnyH _ _ _ _ _ _ _ _ (w_1.alloc (.cells #[] 70))
    rw [← hw_11]
    obtain ⟨bs,hbs⟩:∃ B,B=w_1.heap.size:=⟨_,rfl⟩
    rw [← hbs] at hnew hzn ⊢
    have hs:=hnew
    have hzs:=hzn
    clear hw_11 hbs hb
    refine rd_ [3,9] ?_
    refine AllReadyH.cons rfl (fun K hK=>?_) (AllReadyH.cons rfl (fun K hK=>?_) AllReadyH.nil)
    ·(refine step_app0 (by rfl) (.tmp 8) (.tmp 10) 27 (by rfl) (base:=V1.heap.size) (B:=V1.heap.size) (e:=38) (i:=i0) (size:=2) (bytes:=16) Tryz.underlying27 hi0 hiz0 hiz1 hiz2 rfl (by decide) (by rfl) (by rfl) hp (m:=pn) (HPP.out.ext hC lr_) (flat_ones pp_one _) (by unfold maxLen;omega) (by omega) hC.size ?_)
     intro v_ w_12 hnew hg hbA
     obtain ⟨A1,c1,rfl,hccA1⟩:=own_slice hnew
     have hrow:=hp
     have hg:w_11.grownBy w_12 (Value.slice (some ⟨bp,0,none⟩) 0 0).ownBlock:=hg
     have hC:=hC.trans hbA
     refine hK.out _ _ (S1.grown (B:=bp) hg hS (by omega) (by omega)) (fun hS=>?_)
     clear hK K
     (try simp only [Act.put,pu1,pu2,pu3])
     have hs:=own_other hs hrow ty_ne.2.2.1.symm hg
     have hp:=hnew
     clear hrow hg hbA
     refine rd_ [7,9] ?_
     refine AllReadyH.cons rfl (fun K hK=>?_) (AllReadyH.cons rfl (fun K hK=>?_) AllReadyH.nil)
     ·(refine step_app0 (by rfl) (.tmp 12) (.tmp 14) 30 (by rfl) (base:=V1.heap.size) (B:=V1.heap.size) (e:=70) (i:=j0) (size:=7) (bytes:=56) Tryz.underlying30 hj0 hjz0 hjz1 hjz2 rfl (by decide) (by rfl) (by rfl) hs (m:=sn) (HSS.out.ext hC lr_) (flat_ones sg_one _) (by unfold maxLen;omega) (by omega) hC.size ?_)
      intro v_ w_13 hnew hg hbA
      obtain ⟨A4,c4,rfl,hccA4⟩:=own_slice hnew
      have hrow:=hs
      have hg:w_12.grownBy w_13 (Value.slice (some ⟨bs,0,none⟩) 0 0).ownBlock:=hg
      have hC:=hC.trans hbA
      refine hK.out _ _ (S1.grown (B:=bs) hg hS (by omega) (by omega)) (fun hS=>?_)
      clear hK K
      (try simp only [Act.put,pu1,pu2,pu3])
      have hp:=own_other hp hrow ty_ne.2.2.1 hg
      have hs:=hnew
      clear hrow hg hbA
      (refine tk_ (i:=8) (v:=?_) rfl ?_ hS ?_;rotate_left;focus (intro w2 hw2;(try unfold S1 at hw2);go_split_ands;go_simp;first | done | with_reducible rfl);(try simp only [Act.put,pu1,pu2,pu3]))
      refine rd_ [9] ?_
      refine ah1 rfl fun K hK=>?_
      go_simp
      refine hK.out _ _ (S1.ext ((Below.refl _ _).alloc lr_ (.cells #[.slice none 0 0,.slice none 0 0,.slice none 0 0,.slice none 0 0] 32)) hS) (fun hS=>?_)
      clear hK K
      (try simp only [Act.put,pu1,pu2,pu3])
      have hb:Below w_13.heap.size w_13 (w_13.alloc (.cells #[.slice none 0 0,.slice none 0 0,.slice none 0 0,.slice none 0 0] 32)):=(Below.refl _ _).alloc lr_ _
      have hnew:BoxA (w_13.alloc (.cells #[.slice none 0 0,.slice none 0 0,.slice none 0 0,.slice none 0 0] 32)) w_13.heap.size 32 #[.slice none 0 0,.slice none 0 0,.slice none 0 0,.slice none 0 0]:=BoxA.new _ _ _
      have hzn:V1.heap.size≤w_13.heap.size:=hC.size
      have hC:=bt_ hC hb
      have hp:=own_ex hp hb
      have hs:=own_ex hs hb
      obtain ⟨w_14,hw_14⟩:∃ W,W=w_13.alloc (.cells #[.slice none 0 0,.slice none 0 0,.slice none 0 0,.slice none 0 0] 32):=⟨_,rfl⟩
      rw [← hw_14] at hC hS hnew hp hs
      change wpAnyH _ _ _ _ _ _ _ _ (w_13.alloc (.cells #[.slice none 0 0,.slice none 0 0,.slice none 0 0,.slice none 0 0] 32))
      rw [← hw_14]
      obtain ⟨qo,hqo⟩:∃ B,B=w_13.heap.size:=⟨_,rfl⟩
      rw [← hqo] at hnew hzn ⊢
      have hq:=hnew
      have hz:=hzn
      clear hw_14 hqo hb
      have kq:=hq.cell
      have zq:=hq.lt
      have fq:=hq.frozen
      refine rd_ [10] ?_
      refine ah1 rfl fun K hK=>?_
      go_simp
      refine hK.out _ _ (S1.grown (grown_setCells qo [.slice A1 pn c1,.slice none 0 0,.slice none 0 0,.slice A4 sn c4] 0 w_14) hS (by omega) (by omega)) (fun hS=>?_)
      clear hK K kq zq fq
      (try simp only [Act.put,pu1,pu2,pu3])
      refine wpAnyH_done (by kernel_rfl) ?_ _
      exact ⟨qo,A1,c1,A4,c4,IsFr2.of rfl,cc_fin hV0 hC hq hz hp hs⟩
     ·go_simp
      refine hK.out _ _ (S1.ext ((Below.refl _ _).alloc lr_ (.cells #[.slice none 0 0,.slice none 0 0,.slice none 0 0,.slice none 0 0] 32)) hS) (fun hS=>?_)
      clear hK K
      (try simp only [Act.put,pu1,pu2,pu3])
      have hb:Below w_12.heap.size w_12 (w_12.alloc (.cells #[.slice none 0 0,.slice none 0 0,.slice none 0 0,.slice none 0 0] 32)):=(Below.refl _ _).alloc lr_ _
      have hnew:BoxA (w_12.alloc (.cells #[.slice none 0 0,.slice none 0 0,.slice none 0 0,.slice none 0 0] 32)) w_12.heap.size 32 #[.slice none 0 0,.slice none 0 0,.slice none 0 0,.slice none 0 0]:=BoxA.new _ _ _
      have hzn:V1.heap.size≤w_12.heap.size:=hC.size
      have hC:=bt_ hC hb
      have hp:=own_ex hp hb
      have hs:=own_ex hs hb
      obtain ⟨w_15,hw_15⟩:∃ W,W=w_12.alloc (.cells #[.slice none 0 0,.slice none 0 0,.slice none 0 0,.slice none 0 0] 32):=⟨_,rfl⟩
      rw [← hw_15] at hC hS hnew hp hs
      change wpAnyH _ _ _ _ _ _ _ _ (w_12.alloc (.cells #[.slice none 0 0,.slice none 0 0,.slice none 0 0,.slice none 0 0] 32))
      rw [← hw_15]
      obtain ⟨qo,hqo⟩:∃ B,B=w_12.heap.size:=⟨_,rfl⟩
      rw [← hqo] at hnew hzn ⊢
      have hq:=hnew
      have hz:=hzn
      clear hw_15 hqo hb
      refine rd_ [7] ?_
      refine ah1 rfl fun K hK=>?_
      (refine step_app0 (by rfl) (.tmp 12) (.tmp 14) 30 (by rfl) (base:=V1.heap.size) (B:=V1.heap.size) (e:=70) (i:=j0) (size:=7) (bytes:=56) Tryz.underlying30 hj0 hjz0 hjz1 hjz2 rfl (by decide) (by rfl) (by rfl) hs (m:=sn) (HSS.out.ext hC lr_) (flat_ones sg_one _) (by unfold maxLen;omega) (by omega) hC.size ?_)
      intro v_ w_16 hnew hg hbA
      obtain ⟨A4,c4,rfl,hccA4⟩:=own_slice hnew
      have hrow:=hs
      have hg:w_15.grownBy w_16 (Value.slice (some ⟨bs,0,none⟩) 0 0).ownBlock:=hg
      have hC:=hC.trans hbA
      refine hK.out _ _ (S1.grown (B:=bs) hg hS (by omega) (by omega)) (fun hS=>?_)
      clear hK K
      (try simp only [Act.put,pu1,pu2,pu3])
      have hp:=own_other hp hrow ty_ne.2.2.1 hg
      have hq:=hq.kept hg (own_ne hrow hq (by decide))
      have hs:=hnew
      clear hrow hg hbA
      (refine tk_ (i:=8) (v:=?_) rfl ?_ hS ?_;rotate_left;focus (intro w2 hw2;(try unfold S1 at hw2);go_split_ands;go_simp;first | done | with_reducible rfl);(try simp only [Act.put,pu1,pu2,pu3]))
      have kq:=hq.cell
      have zq:=hq.lt
      have fq:=hq.frozen
      refine rd_ [10] ?_
      refine ah1 rfl fun K hK=>?_
      go_simp
      refine hK.out _ _ (S1.grown (grown_setCells qo [.slice A1 pn c1,.slice none 0 0,.slice none 0 0,.slice A4 sn c4] 0 w_16) hS (by omega) (by omega)) (fun hS=>?_)
      clear hK K kq zq fq
      (try simp only [Act.put,pu1,pu2,pu3])
      refine wpAnyH_done (by kernel_rfl) ?_ _
      exact ⟨qo,A1,c1,A4,c4,IsFr2.of rfl,cc_fin hV0 hC hq hz hp hs⟩
    ·go_simp
     refine hK.out _ _ (S1.ext ((Below.refl _ _).alloc lr_ (.cells #[.slice none 0 0,.slice none 0 0,.slice none 0 0,.slice none 0 0] 32)) hS) (fun hS=>?_)
     clear hK K
     (try simp only [Act.put,pu1,pu2,pu3])
     have hb:Below w_11.heap.size w_11 (w_11.alloc (.cells #[.slice none 0 0,.slice none 0 0,.slice none 0 0,.slice none 0 0] 32)):=(Below.refl _ _).alloc lr_ _
     have hnew:BoxA (w_11.alloc (.cells #[.slice none 0 0,.slice none 0 0,.slice none 0 0,.slice none 0 0] 32)) w_11.heap.size 32 #[.slice none 0 0,.slice none 0 0,.slice none 0 0,.slice none 0 0]:=BoxA.new _ _ _
     have hzn:V1.heap.size≤w_11.heap.size:=hC.size
     have hC:=bt_ hC hb
     have hp:=own_ex hp hb
     have hs:=own_ex hs hb
     obtain ⟨w_17,hw_17⟩:∃ W,W=w_11.alloc (.cells #[.slice none 0 0,.slice none 0 0,.slice none 0 0,.slice none 0 0] 32):=⟨_,rfl⟩
     rw [← hw_17] at hC hS hnew hp hs
     change wpAnyH _ _ _ _ _ _ _ _ (w_11.alloc (.cells #[.slice none 0 0,.slice none 0 0,.slice none 0 0,.slice none 0 0] 32))
     rw [← hw_17]
     obtain ⟨qo,hqo⟩:∃ B,B=w_11.heap.size:=⟨_,rfl⟩
     rw [← hqo] at hnew hzn ⊢
     have hq:=hnew
     have hz:=hzn
     clear hw_17 hqo hb
     refine rd_ [3] ?_
     refine ah1 rfl fun K hK=>?_
     (refine step_app0 (by rfl) (.tmp 8) (.tmp 10) 27 (by rfl) (base:=V1.heap.size) (B:=V1.heap.size) (e:=38) (i:=i0) (size:=2) (bytes:=16) Tryz.underlying27 hi0 hiz0 hiz1 hiz2 rfl (by decide) (by rfl) (by rfl) hp (m:=pn) (HPP.out.ext hC lr_) (flat_ones pp_one _) (by unfold maxLen;omega) (by omega) hC.size ?_)
     intro v_ w_18 hnew hg hbA
     obtain ⟨A1,c1,rfl,hccA1⟩:=own_slice hnew
     have hrow:=hp
     have hg:w_17.grownBy w_18 (Value.slice (some ⟨bp,0,none⟩) 0 0).ownBlock:=hg
     have hC:=hC.trans hbA
     refine hK.out _ _ (S1.grown (B:=bp) hg hS (by omega) (by omega)) (fun hS=>?_)
     clear hK K
     (try simp only [Act.put,pu1,pu2,pu3])
     have hs:=own_other hs hrow ty_ne.2.2.1.symm hg
     have hq:=hq.kept hg (own_ne hrow hq (by decide))
     have hp:=hnew
     clear hrow hg hbA
     refine rd_ [7] ?_
     refine ah1 rfl fun K hK=>?_
     (refine step_app0 (by rfl) (.tmp 12) (.tmp 14) 30 (by rfl) (base:=V1.heap.size) (B:=V1.heap.size) (e:=70) (i:=j0) (size:=7) (bytes:=56) Tryz.underlying30 hj0 hjz0 hjz1 hjz2 rfl (by decide) (by rfl) (by rfl) hs (m:=sn) (HSS.out.ext hC lr_) (flat_ones sg_one _) (by unfold maxLen;omega) (by omega) hC.size ?_)
     intro v_ w_19 hnew hg hbA
     obtain ⟨A4,c4,rfl,hccA4⟩:=own_slice hnew
     have hrow:=hs
     have hg:w_18.grownBy w_19 (Value.slice (some ⟨bs,0,none⟩) 0 0).ownBlock:=hg
     have hC:=hC.trans hbA
     refine hK.out _ _ (S1.grown (B:=bs) hg hS (by omega) (by omega)) (fun hS=>?_)
     clear hK K
     (try simp only [Act.put,pu1,pu2,pu3])
     have hp:=own_other hp hrow ty_ne.2.2.1 hg
     have hq:=hq.kept hg (own_ne hrow hq (by decide))
     have hs:=hnew
     clear hrow hg hbA
     (refine tk_ (i:=8) (v:=?_) rfl ?_ hS ?_;rotate_left;focus (intro w2 hw2;(try unfold S1 at hw2);go_split_ands;go_simp;first | done | with_reducible rfl);(try simp only [Act.put,pu1,pu2,pu3]))
     have kq:=hq.cell
     have zq:=hq.lt
     have fq:=hq.frozen
     refine rd_ [10] ?_
     refine ah1 rfl fun K hK=>?_
     go_simp
     refine hK.out _ _ (S1.grown (grown_setCells qo [.slice A1 pn c1,.slice none 0 0,.slice none 0 0,.slice A4 sn c4] 0 w_19) hS (by omega) (by omega)) (fun hS=>?_)
     clear hK K kq zq fq
     (try simp only [Act.put,pu1,pu2,pu3])
     refine wpAnyH_done (by kernel_rfl) ?_ _
     exact ⟨qo,A1,c1,A4,c4,IsFr2.of rfl,cc_fin hV0 hC hq hz hp hs⟩
   ·go_simp
    refine hK.out _ _ (S1.ext ((Below.refl _ _).alloc lr_ (.cells #[.slice none 0 0,.slice none 0 0,.slice none 0 0,.slice none 0 0] 32)) hS) (fun hS=>?_)
    clear hK K
    (try simp only [Act.put,pu1,pu2,pu3])
    have hb:Below w_1.heap.size w_1 (w_1.alloc (.cells #[.slice none 0 0,.slice none 0 0,.slice none 0 0,.slice none 0 0] 32)):=(Below.refl _ _).alloc lr_ _
    have hnew:BoxA (w_1.alloc (.cells #[.slice none 0 0,.slice none 0 0,.slice none 0 0,.slice none 0 0] 32)) w_1.heap.size 32 #[.slice none 0 0,.slice none 0 0,.slice none 0 0,.slice none 0 0]:=BoxA.new _ _ _
    have hzn:V1.heap.size≤w_1.heap.size:=hC.size
    have hC:=bt_ hC hb
    have hp:=own_ex hp hb
    obtain ⟨w_20,hw_20⟩:∃ W,W=w_1.alloc (.cells #[.slice none 0 0,.slice none 0 0,.slice none 0 0,.slice none 0 0] 32):=⟨_,rfl⟩
    rw [← hw_20] at hC hS hnew hp
    change wpAnyH _ _ _ _ _ _ _ _ (w_1.alloc (.cells #[.slice none 0 0,.slice none 0 0,.slice none 0 0,.slice none 0 0] 32))
    rw [← hw_20]
    obtain ⟨qo,hqo⟩:∃ B,B=w_1.heap.size:=⟨_,rfl⟩
    rw [← hqo] at hnew hzn ⊢
    have hq:=hnew
    have hz:=hzn
    clear hw_20 hqo hb
    refine rd_ [3,4] ?_
    refine AllReadyH.cons rfl (fun K hK=>?_) (AllReadyH.cons rfl (fun K hK=>?_) AllReadyH.nil)
    ·(refine step_app0 (by rfl) (.tmp 8) (.tmp 10) 27 (by rfl) (base:=V1.heap.size) (B:=V1.heap.size) (e:=38) (i:=i0) (size:=2) (bytes:=16) Tryz.underlying27 hi0 hiz0 hiz1 hiz2 rfl (by decide) (by rfl) (by rfl) hp (m:=pn) (HPP.out.ext hC lr_) (flat_ones pp_one _) (by unfold maxLen;omega) (by omega) hC.size ?_)
     intro v_ w_21 hnew hg hbA
     obtain ⟨A1,c1,rfl,hccA1⟩:=own_slice hnew
     have hrow:=hp
     have hg:w_20.grownBy w_21 (Value.slice (some ⟨bp,0,none⟩) 0 0).ownBlock:=hg
     have hC:=hC.trans hbA
     refine hK.out _ _ (S1.grown (B:=bp) hg hS (by omega) (by omega)) (fun hS=>?_)
     clear hK K
     (try simp only [Act.put,pu1,pu2,pu3])
     have hq:=hq.kept hg (own_ne hrow hq (by decide))
     have hp:=hnew
     clear hrow hg hbA
     refine rd_ [4] ?_
     refine ah1 rfl fun K hK=>?_
     go_simp
     refine hK.out _ _ (S1.ext ((Below.refl _ _).alloc lr_ (.cells #[] 70)) hS) (fun hS=>?_)
     clear hK K
     (try simp only [Act.put,pu1,pu2,pu3])
     have hb:Below w_21.heap.size w_21 (w_21.alloc (.cells #[] 70)):=(Below.refl _ _).alloc lr_ _
     have hnew:(w_21.alloc (.cells #[] 70)).ownsRow V1.heap.size 70 7 (.slice (some ⟨w_21.heap.size,0,none⟩) 0 0) 0 []:=own_emptyB2 _ _ _ _ hC.size
     have hzn:V1.heap.size≤w_21.heap.size:=hC.size
     have hC:=bt_ hC hb
     have hp:=own_ex hp hb
     have hq:=hq.ext hb
     obtain ⟨w_22,hw_22⟩:∃ W,W=w_21.alloc (.cells #[] 70):=⟨_,rfl⟩
     rw [← hw_22] at hC hS hnew hp hq
     change wpAnyH _ _ _ _ _ _ _ _ (w_21.alloc (.cells #[] 70))
     rw [← hw_22]
     obtain ⟨bs,hbs⟩:∃ B,B=w_21.heap.size:=⟨_,rfl⟩
     rw [← hbs] at hnew hzn ⊢
     have hs:=hnew
     have hzs:=hzn
     clear hw_22 hbs hb
     refine rd_ [7] ?_
     refine ah1 rfl fun K hK=>?_
     (refine step_app0 (by rfl) (.tmp 12) (.tmp 14) 30 (by rfl) (base:=V1.heap.size) (B:=V1.heap.size) (e:=70) (i:=j0) (size:=7) (bytes:=56) Tryz.underlying30 hj0 hjz0 hjz1 hjz2 rfl (by decide) (by rfl) (by rfl) hs (m:=sn) (HSS.out.ext hC lr_) (flat_ones sg_one _) (by unfold maxLen;omega) (by omega) hC.size ?_)
     intro v_ w_23 hnew hg hbA
     obtain ⟨A4,c4,rfl,hccA4⟩:=own_slice hnew
     have hrow:=hs
     have hg:w_22.grownBy w_23 (Value.slice (some ⟨bs,0,none⟩) 0 0).ownBlock:=hg
     have hC:=hC.trans hbA
     refine hK.out _ _ (S1.grown (B:=bs) hg hS (by omega) (by omega)) (fun hS=>?_)
     clear hK K
     (try simp only [Act.put,pu1,pu2,pu3])
     have hp:=own_other hp hrow ty_ne.2.2.1 hg
     have hq:=hq.kept hg (own_ne hrow hq (by decide))
     have hs:=hnew
     clear hrow hg hbA
     (refine tk_ (i:=8) (v:=?_) rfl ?_ hS ?_;rotate_left;focus (intro w2 hw2;(try unfold S1 at hw2);go_split_ands;go_simp;first | done | with_reducible rfl);(try simp only [Act.put,pu1,pu2,pu3]))
     have kq:=hq.cell
     have zq:=hq.lt
     have fq:=hq.frozen
     refine rd_ [10] ?_
     refine ah1 rfl fun K hK=>?_
     go_simp
     refine hK.out _ _ (S1.grown (grown_setCells qo [.slice A1 pn c1,.slice none 0 0,.slice none 0 0,.slice A4 sn c4] 0 w_23) hS (by omega) (by omega)) (fun hS=>?_)
     clear hK K kq zq fq
     (try simp only [Act.put,pu1,pu2,pu3])
     refine wpAnyH_done (by kernel_rfl) ?_ _
     exact ⟨qo,A1,c1,A4,c4,IsFr2.of rfl,cc_fin hV0 hC hq hz hp hs⟩
    ·go_simp
     refine hK.out _ _ (S1.ext ((Below.refl _ _).alloc lr_ (.cells #[] 70)) hS) (fun hS=>?_)
     clear hK K
     (try simp only [Act.put,pu1,pu2,pu3])
     have hb:Below w_20.heap.size w_20 (w_20.alloc (.cells #[] 70)):=(Below.refl _ _).alloc lr_ _
     have hnew:(w_20.alloc (.cells #[] 70)).ownsRow V1.heap.size 70 7 (.slice (some ⟨w_20.heap.size,0,none⟩) 0 0) 0 []:=own_emptyB2 _ _ _ _ hC.size
     have hzn:V1.heap.size≤w_20.heap.size:=hC.size
     have hC:=bt_ hC hb
     have hp:=own_ex hp hb
     have hq:=hq.ext hb
     obtain ⟨w_24,hw_24⟩:∃ W,W=w_20.alloc (.cells #[] 70):=⟨_,rfl⟩
     rw [← hw_24] at hC hS hnew hp hq
     change wpAnyH _ _ _ _ _ _ _ _ (w_20.alloc (.cells #[] 70))
     rw [← hw_24]
     obtain ⟨bs,hbs⟩:∃ B,B=w_20.heap.size:=⟨_,rfl⟩
     rw [← hbs] at hnew hzn ⊢
     have hs:=hnew
     have hzs:=hzn
     clear hw_24 hbs hb
     refine rd_ [3] ?_
     refine ah1 rfl fun K hK=>?_
     (refine step_app0 (by rfl) (.tmp 8) (.tmp 10) 27 (by rfl) (base:=V1.heap.size) (B:=V1.heap.size) (e:=38) (i:=i0) (size:=2) (bytes:=16) Tryz.underlying27 hi0 hiz0 hiz1 hiz2 rfl (by decide) (by rfl) (by rfl) hp (m:=pn) (HPP.out.ext hC lr_) (flat_ones pp_one _) (by unfold maxLen;omega) (by omega) hC.size ?_)
     intro v_ w_25 hnew hg hbA
     obtain ⟨A1,c1,rfl,hccA1⟩:=own_slice hnew
     have hrow:=hp
     have hg:w_24.grownBy w_25 (Value.slice (some ⟨bp,0,none⟩) 0 0).ownBlock:=hg
     have hC:=hC.trans hbA
     refine hK.out _ _ (S1.grown (B:=bp) hg hS (by omega) (by omega)) (fun hS=>?_)
     clear hK K
     (try simp only [Act.put,pu1,pu2,pu3])
     have hs:=own_other hs hrow ty_ne.2.2.1.symm hg
     have hq:=hq.kept hg (own_ne hrow hq (by decide))
     have hp:=hnew
     clear hrow hg hbA
     refine rd_ [7] ?_
     refine ah1 rfl fun K hK=>?_
     (refine step_app0 (by rfl) (.tmp 12) (.tmp 14) 30 (by rfl) (base:=V1.heap.size) (B:=V1.heap.size) (e:=70) (i:=j0) (size:=7) (bytes:=56) Tryz.underlying30 hj0 hjz0 hjz1 hjz2 rfl (by decide) (by rfl) (by rfl) hs (m:=sn) (HSS.out.ext hC lr_) (flat_ones sg_one _) (by unfold maxLen;omega) (by omega) hC.size ?_)
     intro v_ w_26 hnew hg hbA
     obtain ⟨A4,c4,rfl,hccA4⟩:=own_slice hnew
     have hrow:=hs
     have hg:w_25.grownBy w_26 (Value.slice (some ⟨bs,0,none⟩) 0 0).ownBlock:=hg
     have hC:=hC.trans hbA
     refine hK.out _ _ (S1.grown (B:=bs) hg hS (by omega) (by omega)) (fun hS=>?_)
     clear hK K
     (try simp only [Act.put,pu1,pu2,pu3])
     have hp:=own_other hp hrow ty_ne.2.2.1 hg
     have hq:=hq.kept hg (own_ne hrow hq (by decide))
     have hs:=hnew
     clear hrow hg hbA
     (refine tk_ (i:=8) (v:=?_) rfl ?_ hS ?_;rotate_left;focus (intro w2 hw2;(try unfold S1 at hw2);go_split_ands;go_simp;first | done | with_reducible rfl);(try simp only [Act.put,pu1,pu2,pu3]))
     have kq:=hq.cell
     have zq:=hq.lt
     have fq:=hq.frozen
     refine rd_ [10] ?_
     refine ah1 rfl fun K hK=>?_
     go_simp
     refine hK.out _ _ (S1.grown (grown_setCells qo [.slice A1 pn c1,.slice none 0 0,.slice none 0 0,.slice A4 sn c4] 0 w_26) hS (by omega) (by omega)) (fun hS=>?_)
     clear hK K kq zq fq
     (try simp only [Act.put,pu1,pu2,pu3])
     refine wpAnyH_done (by kernel_rfl) ?_ _
     exact ⟨qo,A1,c1,A4,c4,IsFr2.of rfl,cc_fin hV0 hC hq hz hp hs⟩
  ·go_simp
   refine hK.out _ _ (S1.ext ((Below.refl _ _).alloc lr_ (.cells #[] 70)) hS) (fun hS=>?_)
   clear hK K
   (try simp only [Act.put,pu1,pu2,pu3])
   have hb:Below c0.heap.size c0 (c0.alloc (.cells #[] 70)):=(Below.refl _ _).alloc lr_ _
   have hnew:(c0.alloc (.cells #[] 70)).ownsRow V1.heap.size 70 7 (.slice (some ⟨c0.heap.size,0,none⟩) 0 0) 0 []:=own_emptyB2 _ _ _ _ hC.size
   have hzn:V1.heap.size≤c0.heap.size:=hC.size
   have hC:=bt_ hC hb
   obtain ⟨w_27,hw_27⟩:∃ W,W=c0.alloc (.cells #[] 70):=⟨_,rfl⟩
   rw [← hw_27] at hC hS hnew
   change wpAnyH _ _ _ _ _ _ _ _ (c0.alloc (.cells #[] 70))
   rw [← hw_27]
   obtain ⟨bs,hbs⟩:∃ B,B=c0.heap.size:=⟨_,rfl⟩
   rw [← hbs] at hnew hzn ⊢
   have hs:=hnew
   have hzs:=hzn
   clear hw_27 hbs hb
   refine rd_ [0,9] ?_
   refine AllReadyH.cons rfl (fun K hK=>?_) (AllReadyH.cons rfl (fun K hK=>?_) AllReadyH.nil)
   ·go_simp
    refine hK.out _ _ (S1.ext ((Below.refl _ _).alloc lr_ (.cells #[] 38)) hS) (fun hS=>?_)
    clear hK K
    (try simp only [Act.put,pu1,pu2,pu3])
    have hb:Below w_27.heap.size w_27 (w_27.alloc (.cells #[] 38)):=(Below.refl _ _).alloc lr_ _
    have hnew:(w_27.alloc (.cells #[] 38)).ownsRow V1.heap.size 38 2 (.slice (some ⟨w_27.heap.size,0,none⟩) 0 0) 0 []:=own_emptyB2 _ _ _ _ hC.size
    have hzn:V1.heap.size≤w_27.heap.size:=hC.size
    have hC:=bt_ hC hb
    have hs:=own_ex hs hb
    obtain ⟨w_28,hw_28⟩:∃ W,W=w_27.alloc (.cells #[] 38):=⟨_,rfl⟩
    rw [← hw_28] at hC hS hnew hs
    change wpAnyH _ _ _ _ _ _ _ _ (w_27.alloc (.cells #[] 38))
    rw [← hw_28]
    obtain ⟨bp,hbp⟩:∃ B,B=w_27.heap.size:=⟨_,rfl⟩
    rw [← hbp] at hnew hzn ⊢
    have hp:=hnew
    have hzp:=hzn
    clear hw_28 hbp hb
    refine rd_ [3,9] ?_
    refine AllReadyH.cons rfl (fun K hK=>?_) (AllReadyH.cons rfl (fun K hK=>?_) AllReadyH.nil)
    ·(refine step_app0 (by rfl) (.tmp 8) (.tmp 10) 27 (by rfl) (base:=V1.heap.size) (B:=V1.heap.size) (e:=38) (i:=i0) (size:=2) (bytes:=16) Tryz.underlying27 hi0 hiz0 hiz1 hiz2 rfl (by decide) (by rfl) (by rfl) hp (m:=pn) (HPP.out.ext hC lr_) (flat_ones pp_one _) (by unfold maxLen;omega) (by omega) hC.size ?_)
     intro v_ w_29 hnew hg hbA
     obtain ⟨A1,c1,rfl,hccA1⟩:=own_slice hnew
     have hrow:=hp
     have hg:w_28.grownBy w_29 (Value.slice (some ⟨bp,0,none⟩) 0 0).ownBlock:=hg
     have hC:=hC.trans hbA
     refine hK.out _ _ (S1.grown (B:=bp) hg hS (by omega) (by omega)) (fun hS=>?_)
     clear hK K
     (try simp only [Act.put,pu1,pu2,pu3])
     have hs:=own_other hs hrow ty_ne.2.2.1.symm hg
     have hp:=hnew
     clear hrow hg hbA
     refine rd_ [7,9] ?_
     refine AllReadyH.cons rfl (fun K hK=>?_) (AllReadyH.cons rfl (fun K hK=>?_) AllReadyH.nil)
     ·(refine step_app0 (by rfl) (.tmp 12) (.tmp 14) 30 (by rfl) (base:=V1.heap.size) (B:=V1.heap.size) (e:=70) (i:=j0) (size:=7) (bytes:=56) Tryz.underlying30 hj0 hjz0 hjz1 hjz2 rfl (by decide) (by rfl) (by rfl) hs (m:=sn) (HSS.out.ext hC lr_) (flat_ones sg_one _) (by unfold maxLen;omega) (by omega) hC.size ?_)
      intro v_ w_30 hnew hg hbA
      obtain ⟨A4,c4,rfl,hccA4⟩:=own_slice hnew
      have hrow:=hs
      have hg:w_29.grownBy w_30 (Value.slice (some ⟨bs,0,none⟩) 0 0).ownBlock:=hg
      have hC:=hC.trans hbA
      refine hK.out _ _ (S1.grown (B:=bs) hg hS (by omega) (by omega)) (fun hS=>?_)
      clear hK K
      (try simp only [Act.put,pu1,pu2,pu3])
      have hp:=own_other hp hrow ty_ne.2.2.1 hg
      have hs:=hnew
      clear hrow hg hbA
      (refine tk_ (i:=8) (v:=?_) rfl ?_ hS ?_;rotate_left;focus (intro w2 hw2;(try unfold S1 at hw2);go_split_ands;go_simp;first | done | with_reducible rfl);(try simp only [Act.put,pu1,pu2,pu3]))
      refine rd_ [9] ?_
      refine ah1 rfl fun K hK=>?_
      go_simp
      refine hK.out _ _ (S1.ext ((Below.refl _ _).alloc lr_ (.cells #[.slice none 0 0,.slice none 0 0,.slice none 0 0,.slice none 0 0] 32)) hS) (fun hS=>?_)
      clear hK K
      (try simp only [Act.put,pu1,pu2,pu3])
      have hb:Below w_30.heap.size w_30 (w_30.alloc (.cells #[.slice none 0 0,.slice none 0 0,.slice none 0 0,.slice none 0 0] 32)):=(Below.refl _ _).alloc lr_ _
      have hnew:BoxA (w_30.alloc (.cells #[.slice none 0 0,.slice none 0 0,.slice none 0 0,.slice none 0 0] 32)) w_30.heap.size 32 #[.slice none 0 0,.slice none 0 0,.slice none 0 0,.slice none 0 0]:=BoxA.new _ _ _
      have hzn:V1.heap.size≤w_30.heap.size:=hC.size
      have hC:=bt_ hC hb
      have hp:=own_ex hp hb
      have hs:=own_ex hs hb
      obtain ⟨w_31,hw_31⟩:∃ W,W=w_30.alloc (.cells #[.slice none 0 0,.slice none 0 0,.slice none 0 0,.slice none 0 0] 32):=⟨_,rfl⟩
      rw [← hw_31] at hC hS hnew hp hs
      change wpAnyH _ _ _ _ _ _ _ _ (w_30.alloc (.cells #[.slice none 0 0,.slice none 0 0,.slice none 0 0,.slice none 0 0] 32))
      rw [← hw_31]
      obtain ⟨qo,hqo⟩:∃ B,B=w_30.heap.size:=⟨_,rfl⟩
      rw [← hqo] at hnew hzn ⊢
      have hq:=hnew
      have hz:=hzn
      clear hw_31 hqo hb
      have kq:=hq.cell
      have zq:=hq.lt
      have fq:=hq.frozen
      refine rd_ [10] ?_
      refine ah1 rfl fun K hK=>?_
      go_simp
      refine hK.out _ _ (S1.grown (grown_setCells qo [.slice A1 pn c1,.slice none 0 0,.slice none 0 0,.slice A4 sn c4] 0 w_31) hS (by omega) (by omega)) (fun hS=>?_)
      clear hK K kq zq fq
      (try simp only [Act.put,pu1,pu2,pu3])
      refine wpAnyH_done (by kernel_rfl) ?_ _
      exact ⟨qo,A1,c1,A4,c4,IsFr2.of rfl,cc_fin hV0 hC hq hz hp hs⟩
     ·go_simp
      refine hK.out _ _ (S1.ext ((Below.refl _ _).alloc lr_ (.cells #[.slice none 0 0,.slice none 0 0,.slice none 0 0,.slice none 0 0] 32)) hS) (fun hS=>?_)
      clear hK K
      (try simp only [Act.put,pu1,pu2,pu3])
      have hb:Below w_29.heap.size w_29 (w_29.alloc (.cells #[.slice none 0 0,.slice none 0 0,.slice none 0 0,.slice none 0 0] 32)):=(Below.refl _ _).alloc lr_ _
      have hnew:BoxA (w_29.alloc (.cells #[.slice none 0 0,.slice none 0 0,.slice none 0 0,.slice none 0 0] 32)) w_29.heap.size 32 #[.slice none 0 0,.slice none 0 0,.slice none 0 0,.slice none 0 0]:=BoxA.new _ _ _
      have hzn:V1.heap.size≤w_29.heap.size:=hC.size
      have hC:=bt_ hC hb
      have hp:=own_ex hp hb
      have hs:=own_ex hs hb
      obtain ⟨w_32,hw_32⟩:∃ W,W=w_29.alloc (.cells #[.slice none 0 0,.slice none 0 0,.slice none 0 0,.slice none 0 0] 32):=⟨_,rfl⟩
      rw [← hw_32] at hC hS hnew hp hs
      change wpAnyH _ _ _ _ _ _ _ _ (w_29.alloc (.cells #[.slice none 0 0,.slice none 0 0,.slice none 0 0,.slice none 0 0] 32))
      rw [← hw_32]
      obtain ⟨qo,hqo⟩:∃ B,B=w_29.heap.size:=⟨_,rfl⟩
      rw [← hqo] at hnew hzn ⊢
      have hq:=hnew
      have hz:=hzn
      clear hw_32 hqo hb
      refine rd_ [7] ?_
      refine ah1 rfl fun K hK=>?_
      (refine step_app0 (by rfl) (.tmp 12) (.tmp 14) 30 (by rfl) (base:=V1.heap.size) (B:=V1.heap.size) (e:=70) (i:=j0) (size:=7) (bytes:=56) Tryz.underlying30 hj0 hjz0 hjz1 hjz2 rfl (by decide) (by rfl) (by rfl) hs (m:=sn) (HSS.out.ext hC lr_) (flat_ones sg_one _) (by unfold maxLen;omega) (by omega) hC.size ?_)
      intro v_ w_33 hnew hg hbA
      obtain ⟨A4,c4,rfl,hccA4⟩:=own_slice hnew
      have hrow:=hs
      have hg:w_32.grownBy w_33 (Value.slice (some ⟨bs,0,none⟩) 0 0).ownBlock:=hg
      have hC:=hC.trans hbA
      refine hK.out _ _ (S1.grown (B:=bs) hg hS (by omega) (by omega)) (fun hS=>?_)
      clear hK K
      (try simp only [Act.put,pu1,pu2,pu3])
      have hp:=own_other hp hrow ty_ne.2.2.1 hg
      have hq:=hq.kept hg (own_ne hrow hq (by decide))
      have hs:=hnew
      clear hrow hg hbA
      (refine tk_ (i:=8) (v:=?_) rfl ?_ hS ?_;rotate_left;focus (intro w2 hw2;(try unfold S1 at hw2);go_split_ands;go_simp;first | done | with_reducible rfl);(try simp only [Act.put,pu1,pu2,pu3]))
      have kq:=hq.cell
      have zq:=hq.lt
      have fq:=hq.frozen
      refine rd_ [10] ?_
      refine ah1 rfl fun K hK=>?_
      go_simp
      refine hK.out _ _ (S1.grown (grown_setCells qo [.slice A1 pn c1,.slice none 0 0,.slice none 0 0,.slice A4 sn c4] 0 w_33) hS (by omega) (by omega)) (fun hS=>?_)
      clear hK K kq zq fq
      (try simp only [Act.put,pu1,pu2,pu3])
      refine wpAnyH_done (by kernel_rfl) ?_ _
      exact ⟨qo,A1,c1,A4,c4,IsFr2.of rfl,cc_fin hV0 hC hq hz hp hs⟩
    ·go_simp
     refine hK.out _ _ (S1.ext ((Below.refl _ _).alloc lr_ (.cells #[.slice none 0 0,.slice none 0 0,.slice none 0 0,.slice none 0 0] 32)) hS) (fun hS=>?_)
     clear hK K
     (try simp only [Act.put,pu1,pu2,pu3])
     have hb:Below w_28.heap.size w_28 (w_28.alloc (.cells #[.slice none 0 0,.slice none 0 0,.slice none 0 0,.slice none 0 0] 32)):=(Below.refl _ _).alloc lr_ _
     have hnew:BoxA (w_28.alloc (.cells #[.slice none 0 0,.slice none 0 0,.slice none 0 0,.slice none 0 0] 32)) w_28.heap.size 32 #[.slice none 0 0,.slice none 0 0,.slice none 0 0,.slice none 0 0]:=BoxA.new _ _ _
     have hzn:V1.heap.size≤w_28.heap.size:=hC.size
     have hC:=bt_ hC hb
     have hp:=own_ex hp hb
     have hs:=own_ex hs hb
     obtain ⟨w_34,hw_34⟩:∃ W,W=w_28.alloc (.cells #[.slice none 0 0,.slice none 0 0,.slice none 0 0,.slice none 0 0] 32):=⟨_,rfl⟩
     rw [← hw_34] at hC hS hnew hp hs
     change wpAnyH _ _ _ _ _ _ _ _ (w_28.alloc (.cells #[.slice none 0 0,.slice none 0 0,.slice none 0 0,.slice none 0 0] 32))
     rw [← hw_34]
     obtain ⟨qo,hqo⟩:∃ B,B=w_28.heap.size:=⟨_,rfl⟩
     rw [← hqo] at hnew hzn ⊢
     have hq:=hnew
     have hz:=hzn
     clear hw_34 hqo hb
     refine rd_ [3] ?_
     refine ah1 rfl fun K hK=>?_
     (refine step_app0 (by rfl) (.tmp 8) (.tmp 10) 27 (by rfl) (base:=V1.heap.size) (B:=V1.heap.size) (e:=38) (i:=i0) (size:=2) (bytes:=16) Tryz.underlying27 hi0 hiz0 hiz1 hiz2 rfl (by decide) (by rfl) (by rfl) hp (m:=pn) (HPP.out.ext hC lr_) (flat_ones pp_one _) (by unfold maxLen;omega) (by omega) hC.size ?_)
     intro v_ w_35 hnew hg hbA
     obtain ⟨A1,c1,rfl,hccA1⟩:=own_slice hnew
     have hrow:=hp
     have hg:w_34.grownBy w_35 (Value.slice (some ⟨bp,0,none⟩) 0 0).ownBlock:=hg
     have hC:=hC.trans hbA
     refine hK.out _ _ (S1.grown (B:=bp) hg hS (by omega) (by omega)) (fun hS=>?_)
     clear hK K
     (try simp only [Act.put,pu1,pu2,pu3])
     have hs:=own_other hs hrow ty_ne.2.2.1.symm hg
     have hq:=hq.kept hg (own_ne hrow hq (by decide))
     have hp:=hnew
     clear hrow hg hbA
     refine rd_ [7] ?_
     refine ah1 rfl fun K hK=>?_
     (refine step_app0 (by rfl) (.tmp 12) (.tmp 14) 30 (by rfl) (base:=V1.heap.size) (B:=V1.heap.size) (e:=70) (i:=j0) (size:=7) (bytes:=56) Tryz.underlying30 hj0 hjz0 hjz1 hjz2 rfl (by decide) (by rfl) (by rfl) hs (m:=sn) (HSS.out.ext hC lr_) (flat_ones sg_one _) (by unfold maxLen;omega) (by omega) hC.size ?_)
     intro v_ w_36 hnew hg hbA
     obtain ⟨A4,c4,rfl,hccA4⟩:=own_slice hnew
     have hrow:=hs
     have hg:w_35.grownBy w_36 (Value.slice (some ⟨bs,0,none⟩) 0 0).ownBlock:=hg
     have hC:=hC.trans hbA
     refine hK.out _ _ (S1.grown (B:=bs) hg hS (by omega) (by omega)) (fun hS=>?_)
     clear hK K
     (try simp only [Act.put,pu1,pu2,pu3])
     have hp:=own_other hp hrow ty_ne.2.2.1 hg
     have hq:=hq.kept hg (own_ne hrow hq (by decide))
     have hs:=hnew
     clear hrow hg hbA
     (refine tk_ (i:=8) (v:=?_) rfl ?_ hS ?_;rotate_left;focus (intro w2 hw2;(try unfold S1 at hw2);go_split_ands;go_simp;first | done | with_reducible rfl);(try simp only [Act.put,pu1,pu2,pu3]))
     have kq:=hq.cell
     have zq:=hq.lt
     have fq:=hq.frozen
     refine rd_ [10] ?_
     refine ah1 rfl fun K hK=>?_
     go_simp
     refine hK.out _ _ (S1.grown (grown_setCells qo [.slice A1 pn c1,.slice none 0 0,.slice none 0 0,.slice A4 sn c4] 0 w_36) hS (by omega) (by omega)) (fun hS=>?_)
     clear hK K kq zq fq
     (try simp only [Act.put,pu1,pu2,pu3])
     refine wpAnyH_done (by kernel_rfl) ?_ _
     exact ⟨qo,A1,c1,A4,c4,IsFr2.of rfl,cc_fin hV0 hC hq hz hp hs⟩
   ·go_simp
    refine hK.out _ _ (S1.ext ((Below.refl _ _).alloc lr_ (.cells #[.slice none 0 0,.slice none 0 0,.slice none 0 0,.slice none 0 0] 32)) hS) (fun hS=>?_)
    clear hK K
    (try simp only [Act.put,pu1,pu2,pu3])
    have hb:Below w_27.heap.size w_27 (w_27.alloc (.cells #[.slice none 0 0,.slice none 0 0,.slice none 0 0,.slice none 0 0] 32)):=(Below.refl _ _).alloc lr_ _
    have hnew:BoxA (w_27.alloc (.cells #[.slice none 0 0,.slice none 0 0,.slice none 0 0,.slice none 0 0] 32)) w_27.heap.size 32 #[.slice none 0 0,.slice none 0 0,.slice none 0 0,.slice none 0 0]:=BoxA.new _ _ _
    have hzn:V1.heap.size≤w_27.heap.size:=hC.size
    have hC:=bt_ hC hb
    have hs:=own_ex hs hb
    obtain ⟨w_37,hw_37⟩:∃ W,W=w_27.alloc (.cells #[.slice none 0 0,.slice none 0 0,.slice none 0 0,.slice none 0 0] 32):=⟨_,rfl⟩
    rw [← hw_37] at hC hS hnew hs
    change wpAnyH _ _ _ _ _ _ _ _ (w_27.alloc (.cells #[.slice none 0 0,.slice none 0 0,.slice none 0 0,.slice none 0 0] 32))
    rw [← hw_37]
    obtain ⟨qo,hqo⟩:∃ B,B=w_27.heap.size:=⟨_,rfl⟩
    rw [← hqo] at hnew hzn ⊢
    have hq:=hnew
    have hz:=hzn
    clear hw_37 hqo hb
    refine rd_ [0] ?_
    refine ah1 rfl fun K hK=>?_
    go_simp
    refine hK.out _ _ (S1.ext ((Below.refl _ _).alloc lr_ (.cells #[] 38)) hS) (fun hS=>?_)
    clear hK K
    (try simp only [Act.put,pu1,pu2,pu3])
    have hb:Below w_37.heap.size w_37 (w_37.alloc (.cells #[] 38)):=(Below.refl _ _).alloc lr_ _
    have hnew:(w_37.alloc (.cells #[] 38)).ownsRow V1.heap.size 38 2 (.slice (some ⟨w_37.heap.size,0,none⟩) 0 0) 0 []:=own_emptyB2 _ _ _ _ hC.size
    have hzn:V1.heap.size≤w_37.heap.size:=hC.size
    have hC:=bt_ hC hb
    have hs:=own_ex hs hb
    have hq:=hq.ext hb
    obtain ⟨w_38,hw_38⟩:∃ W,W=w_37.alloc (.cells #[] 38):=⟨_,rfl⟩
    rw [← hw_38] at hC hS hnew hs hq
    change wpAnyH _ _ _ _ _ _ _ _ (w_37.alloc (.cells #[] 38))
    rw [← hw_38]
    obtain ⟨bp,hbp⟩:∃ B,B=w_37.heap.size:=⟨_,rfl⟩
    rw [← hbp] at hnew hzn ⊢
    have hp:=hnew
    have hzp:=hzn
    clear hw_38 hbp hb
    refine rd_ [3] ?_
    refine ah1 rfl fun K hK=>?_
    (refine step_app0 (by rfl) (.tmp 8) (.tmp 10) 27 (by rfl) (base:=V1.heap.size) (B:=V1.heap.size) (e:=38) (i:=i0) (size:=2) (bytes:=16) Tryz.underlying27 hi0 hiz0 hiz1 hiz2 rfl (by decide) (by rfl) (by rfl) hp (m:=pn) (HPP.out.ext hC lr_) (flat_ones pp_one _) (by unfold maxLen;omega) (by omega) hC.size ?_)
    intro v_ w_39 hnew hg hbA
    obtain ⟨A1,c1,rfl,hccA1⟩:=own_slice hnew
    have hrow:=hp
    have hg:w_38.grownBy w_39 (Value.slice (some ⟨bp,0,none⟩) 0 0).ownBlock:=hg
    have hC:=hC.trans hbA
    refine hK.out _ _ (S1.grown (B:=bp) hg hS (by omega) (by omega)) (fun hS=>?_)
    clear hK K
    (try simp only [Act.put,pu1,pu2,pu3])
    have hs:=own_other hs hrow ty_ne.2.2.1.symm hg
    have hq:=hq.kept hg (own_ne hrow hq (by decide))
    have hp:=hnew
    clear hrow hg hbA
    refine rd_ [7] ?_
    refine ah1 rfl fun K hK=>?_
    (refine step_app0 (by rfl) (.tmp 12) (.tmp 14) 30 (by rfl) (base:=V1.heap.size) (B:=V1.heap.size) (e:=70) (i:=j0) (size:=7) (bytes:=56) Tryz.underlying30 hj0 hjz0 hjz1 hjz2 rfl (by decide) (by rfl) (by rfl) hs (m:=sn) (HSS.out.ext hC lr_) (flat_ones sg_one _) (by unfold maxLen;omega) (by omega) hC.size ?_)
    intro v_ w_40 hnew hg hbA
    obtain ⟨A4,c4,rfl,hccA4⟩:=own_slice hnew
    have hrow:=hs
    have hg:w_39.grownBy w_40 (Value.slice (some ⟨bs,0,none⟩) 0 0).ownBlock:=hg
    have hC:=hC.trans hbA
    refine hK.out _ _ (S1.grown (B:=bs) hg hS (by omega) (by omega)) (fun hS=>?_)
    clear hK K
    (try simp only [Act.put,pu1,pu2,pu3])
    have hp:=own_other hp hrow ty_ne.2.2.1 hg
    have hq:=hq.kept hg (own_ne hrow hq (by decide))
    have hs:=hnew
    clear hrow hg hbA
    (refine tk_ (i:=8) (v:=?_) rfl ?_ hS ?_;rotate_left;focus (intro w2 hw2;(try unfold S1 at hw2);go_split_ands;go_simp;first | done | with_reducible rfl);(try simp only [Act.put,pu1,pu2,pu3]))
    have kq:=hq.cell
    have zq:=hq.lt
    have fq:=hq.frozen
    refine rd_ [10] ?_
    refine ah1 rfl fun K hK=>?_
    go_simp
    refine hK.out _ _ (S1.grown (grown_setCells qo [.slice A1 pn c1,.slice none 0 0,.slice none 0 0,.slice A4 sn c4] 0 w_40) hS (by omega) (by omega)) (fun hS=>?_)
    clear hK K kq zq fq
    (try simp only [Act.put,pu1,pu2,pu3])
    refine wpAnyH_done (by kernel_rfl) ?_ _
    exact ⟨qo,A1,c1,A4,c4,IsFr2.of rfl,cc_fin hV0 hC hq hz hp hs⟩
  ·go_simp
   refine hK.out _ _ (S1.ext ((Below.refl _ _).alloc lr_ (.cells #[.slice none 0 0,.slice none 0 0,.slice none 0 0,.slice none 0 0] 32)) hS) (fun hS=>?_)
   clear hK K
   (try simp only [Act.put,pu1,pu2,pu3])
   have hb:Below c0.heap.size c0 (c0.alloc (.cells #[.slice none 0 0,.slice none 0 0,.slice none 0 0,.slice none 0 0] 32)):=(Below.refl _ _).alloc lr_ _
   have hnew:BoxA (c0.alloc (.cells #[.slice none 0 0,.slice none 0 0,.slice none 0 0,.slice none 0 0] 32)) c0.heap.size 32 #[.slice none 0 0,.slice none 0 0,.slice none 0 0,.slice none 0 0]:=BoxA.new _ _ _
   have hzn:V1.heap.size≤c0.heap.size:=hC.size
   have hC:=bt_ hC hb
   obtain ⟨w_41,hw_41⟩:∃ W,W=c0.alloc (.cells #[.slice none 0 0,.slice none 0 0,.slice none 0 0,.slice none 0 0] 32):=⟨_,rfl⟩
   rw [← hw_41] at hC hS hnew
   change wpAnyH _ _ _ _ _ _ _ _ (c0.alloc (.cells #[.slice none 0 0,.slice none 0 0,.slice none 0 0,.slice none 0 0] 32))
   rw [← hw_41]
   obtain ⟨qo,hqo⟩:∃ B,B=c0.heap.size:=⟨_,rfl⟩
   rw [← hqo] at hnew hzn ⊢
   have hq:=hnew
   have hz:=hzn
   clear hw_41 hqo hb
   refine rd_ [0,4] ?_
   refine AllReadyH.cons rfl (fun K hK=>?_) (AllReadyH.cons rfl (fun K hK=>?_) AllReadyH.nil)
   ·go_simp
    refine hK.out _ _ (S1.ext ((Below.refl _ _).alloc lr_ (.cells #[] 38)) hS) (fun hS=>?_)
    clear hK K
    (try simp only [Act.put,pu1,pu2,pu3])
    have hb:Below w_41.heap.size w_41 (w_41.alloc (.cells #[] 38)):=(Below.refl _ _).alloc lr_ _
    have hnew:(w_41.alloc (.cells #[] 38)).ownsRow V1.heap.size 38 2 (.slice (some ⟨w_41.heap.size,0,none⟩) 0 0) 0 []:=own_emptyB2 _ _ _ _ hC.size
    have hzn:V1.heap.size≤w_41.heap.size:=hC.size
    have hC:=bt_ hC hb
    have hq:=hq.ext hb
    obtain ⟨w_42,hw_42⟩:∃ W,W=w_41.alloc (.cells #[] 38):=⟨_,rfl⟩
    rw [← hw_42] at hC hS hnew hq
    change wpAnyH _ _ _ _ _ _ _ _ (w_41.alloc (.cells #[] 38))
    rw [← hw_42]
    obtain ⟨bp,hbp⟩:∃ B,B=w_41.heap.size:=⟨_,rfl⟩
    rw [← hbp] at hnew hzn ⊢
    have hp:=hnew
    have hzp:=hzn
    clear hw_42 hbp hb
    refine rd_ [3,4] ?_
    refine AllReadyH.cons rfl (fun K hK=>?_) (AllReadyH.cons rfl (fun K hK=>?_) AllReadyH.nil)
    ·(refine step_app0 (by rfl) (.tmp 8) (.tmp 10) 27 (by rfl) (base:=V1.heap.size) (B:=V1.heap.size) (e:=38) (i:=i0) (size:=2) (bytes:=16) Tryz.underlying27 hi0 hiz0 hiz1 hiz2 rfl (by decide) (by rfl) (by rfl) hp (m:=pn) (HPP.out.ext hC lr_) (flat_ones pp_one _) (by unfold maxLen;omega) (by omega) hC.size ?_)
     intro v_ w_43 hnew hg hbA
     obtain ⟨A1,c1,rfl,hccA1⟩:=own_slice hnew
     have hrow:=hp
     have hg:w_42.grownBy w_43 (Value.slice (some ⟨bp,0,none⟩) 0 0).ownBlock:=hg
     have hC:=hC.trans hbA
     refine hK.out _ _ (S1.grown (B:=bp) hg hS (by omega) (by omega)) (fun hS=>?_)
     clear hK K
     (try simp only [Act.put,pu1,pu2,pu3])
     have hq:=hq.kept hg (own_ne hrow hq (by decide))
     have hp:=hnew
     clear hrow hg hbA
     refine rd_ [4] ?_
     refine ah1 rfl fun K hK=>?_
     go_simp
     refine hK.out _ _ (S1.ext ((Below.refl _ _).alloc lr_ (.cells #[] 70)) hS) (fun hS=>?_)
     clear hK K
     (try simp only [Act.put,pu1,pu2,pu3])
     have hb:Below w_43.heap.size w_43 (w_43.alloc (.cells #[] 70)):=(Below.refl _ _).alloc lr_ _
     have hnew:(w_43.alloc (.cells #[] 70)).ownsRow V1.heap.size 70 7 (.slice (some ⟨w_43.heap.size,0,none⟩) 0 0) 0 []:=own_emptyB2 _ _ _ _ hC.size
     have hzn:V1.heap.size≤w_43.heap.size:=hC.size
     have hC:=bt_ hC hb
     have hp:=own_ex hp hb
     have hq:=hq.ext hb
     obtain ⟨w_44,hw_44⟩:∃ W,W=w_43.alloc (.cells #[] 70):=⟨_,rfl⟩
     rw [← hw_44] at hC hS hnew hp hq
     change wpAnyH _ _ _ _ _ _ _ _ (w_43.alloc (.cells #[] 70))
     rw [← hw_44]
     obtain ⟨bs,hbs⟩:∃ B,B=w_43.heap.size:=⟨_,rfl⟩
     rw [← hbs] at hnew hzn ⊢
     have hs:=hnew
     have hzs:=hzn
     clear hw_44 hbs hb
     refine rd_ [7] ?_
     refine ah1 rfl fun K hK=>?_
     (refine step_app0 (by rfl) (.tmp 12) (.tmp 14) 30 (by rfl) (base:=V1.heap.size) (B:=V1.heap.size) (e:=70) (i:=j0) (size:=7) (bytes:=56) Tryz.underlying30 hj0 hjz0 hjz1 hjz2 rfl (by decide) (by rfl) (by rfl) hs (m:=sn) (HSS.out.ext hC lr_) (flat_ones sg_one _) (by unfold maxLen;omega) (by omega) hC.size ?_)
     intro v_ w_45 hnew hg hbA
     obtain ⟨A4,c4,rfl,hccA4⟩:=own_slice hnew
     have hrow:=hs
     have hg:w_44.grownBy w_45 (Value.slice (some ⟨bs,0,none⟩) 0 0).ownBlock:=hg
     have hC:=hC.trans hbA
     refine hK.out _ _ (S1.grown (B:=bs) hg hS (by omega) (by omega)) (fun hS=>?_)
     clear hK K
     (try simp only [Act.put,pu1,pu2,pu3])
     have hp:=own_other hp hrow ty_ne.2.2.1 hg
     have hq:=hq.kept hg (own_ne hrow hq (by decide))
     have hs:=hnew
     clear hrow hg hbA
     (refine tk_ (i:=8) (v:=?_) rfl ?_ hS ?_;rotate_left;focus (intro w2 hw2;(try unfold S1 at hw2);go_split_ands;go_simp;first | done | with_reducible rfl);(try simp only [Act.put,pu1,pu2,pu3]))
     have kq:=hq.cell
     have zq:=hq.lt
     have fq:=hq.frozen
     refine rd_ [10] ?_
     refine ah1 rfl fun K hK=>?_
     go_simp
     refine hK.out _ _ (S1.grown (grown_setCells qo [.slice A1 pn c1,.slice none 0 0,.slice none 0 0,.slice A4 sn c4] 0 w_45) hS (by omega) (by omega)) (fun hS=>?_)
     clear hK K kq zq fq
     (try simp only [Act.put,pu1,pu2,pu3])
     refine wpAnyH_done (by kernel_rfl) ?_ _
     exact ⟨qo,A1,c1,A4,c4,IsFr2.of rfl,cc_fin hV0 hC hq hz hp hs⟩
    ·go_simp
     refine hK.out _ _ (S1.ext ((Below.refl _ _).alloc lr_ (.cells #[] 70)) hS) (fun hS=>?_)
     clear hK K
     (try simp only [Act.put,pu1,pu2,pu3])
     have hb:Below w_42.heap.size w_42 (w_42.alloc (.cells #[] 70)):=(Below.refl _ _).alloc lr_ _
     have hnew:(w_42.alloc (.cells #[] 70)).ownsRow V1.heap.size 70 7 (.slice (some ⟨w_42.heap.size,0,none⟩) 0 0) 0 []:=own_emptyB2 _ _ _ _ hC.size
     have hzn:V1.heap.size≤w_42.heap.size:=hC.size
     have hC:=bt_ hC hb
     have hp:=own_ex hp hb
     have hq:=hq.ext hb
     obtain ⟨w_46,hw_46⟩:∃ W,W=w_42.alloc (.cells #[] 70):=⟨_,rfl⟩
     rw [← hw_46] at hC hS hnew hp hq
     change wpAnyH _ _ _ _ _ _ _ _ (w_42.alloc (.cells #[] 70))
     rw [← hw_46]
     obtain ⟨bs,hbs⟩:∃ B,B=w_42.heap.size:=⟨_,rfl⟩
     rw [← hbs] at hnew hzn ⊢
     have hs:=hnew
     have hzs:=hzn
     clear hw_46 hbs hb
     refine rd_ [3] ?_
     refine ah1 rfl fun K hK=>?_
     (refine step_app0 (by rfl) (.tmp 8) (.tmp 10) 27 (by rfl) (base:=V1.heap.size) (B:=V1.heap.size) (e:=38) (i:=i0) (size:=2) (bytes:=16) Tryz.underlying27 hi0 hiz0 hiz1 hiz2 rfl (by decide) (by rfl) (by rfl) hp (m:=pn) (HPP.out.ext hC lr_) (flat_ones pp_one _) (by unfold maxLen;omega) (by omega) hC.size ?_)
     intro v_ w_47 hnew hg hbA
     obtain ⟨A1,c1,rfl,hccA1⟩:=own_slice hnew
     have hrow:=hp
     have hg:w_46.grownBy w_47 (Value.slice (some ⟨bp,0,none⟩) 0 0).ownBlock:=hg
     have hC:=hC.trans hbA
     refine hK.out _ _ (S1.grown (B:=bp) hg hS (by omega) (by omega)) (fun hS=>?_)
     clear hK K
     (try simp only [Act.put,pu1,pu2,pu3])
     have hs:=own_other hs hrow ty_ne.2.2.1.symm hg
     have hq:=hq.kept hg (own_ne hrow hq (by decide))
     have hp:=hnew
     clear hrow hg hbA
     refine rd_ [7] ?_
     refine ah1 rfl fun K hK=>?_
     (refine step_app0 (by rfl) (.tmp 12) (.tmp 14) 30 (by rfl) (base:=V1.heap.size) (B:=V1.heap.size) (e:=70) (i:=j0) (size:=7) (bytes:=56) Tryz.underlying30 hj0 hjz0 hjz1 hjz2 rfl (by decide) (by rfl) (by rfl) hs (m:=sn) (HSS.out.ext hC lr_) (flat_ones sg_one _) (by unfold maxLen;omega) (by omega) hC.size ?_)
     intro v_ w_48 hnew hg hbA
     obtain ⟨A4,c4,rfl,hccA4⟩:=own_slice hnew
     have hrow:=hs
     have hg:w_47.grownBy w_48 (Value.slice (some ⟨bs,0,none⟩) 0 0).ownBlock:=hg
     have hC:=hC.trans hbA
     refine hK.out _ _ (S1.grown (B:=bs) hg hS (by omega) (by omega)) (fun hS=>?_)
     clear hK K
     (try simp only [Act.put,pu1,pu2,pu3])
     have hp:=own_other hp hrow ty_ne.2.2.1 hg
     have hq:=hq.kept hg (own_ne hrow hq (by decide))
     have hs:=hnew
     clear hrow hg hbA
     (refine tk_ (i:=8) (v:=?_) rfl ?_ hS ?_;rotate_left;focus (intro w2 hw2;(try unfold S1 at hw2);go_split_ands;go_simp;first | done | with_reducible rfl);(try simp only [Act.put,pu1,pu2,pu3]))
     have kq:=hq.cell
     have zq:=hq.lt
     have fq:=hq.frozen
     refine rd_ [10] ?_
     refine ah1 rfl fun K hK=>?_
     go_simp
     refine hK.out _ _ (S1.grown (grown_setCells qo [.slice A1 pn c1,.slice none 0 0,.slice none 0 0,.slice A4 sn c4] 0 w_48) hS (by omega) (by omega)) (fun hS=>?_)
     clear hK K kq zq fq
     (try simp only [Act.put,pu1,pu2,pu3])
     refine wpAnyH_done (by kernel_rfl) ?_ _
     exact ⟨qo,A1,c1,A4,c4,IsFr2.of rfl,cc_fin hV0 hC hq hz hp hs⟩
   ·go_simp
    refine hK.out _ _ (S1.ext ((Below.refl _ _).alloc lr_ (.cells #[] 70)) hS) (fun hS=>?_)
    clear hK K
    (try simp only [Act.put,pu1,pu2,pu3])
    have hb:Below w_41.heap.size w_41 (w_41.alloc (.cells #[] 70)):=(Below.refl _ _).alloc lr_ _
    have hnew:(w_41.alloc (.cells #[] 70)).ownsRow V1.heap.size 70 7 (.slice (some ⟨w_41.heap.size,0,none⟩) 0 0) 0 []:=own_emptyB2 _ _ _ _ hC.size
    have hzn:V1.heap.size≤w_41.heap.size:=hC.size
    have hC:=bt_ hC hb
    have hq:=hq.ext hb
    obtain ⟨w_49,hw_49⟩:∃ W,W=w_41.alloc (.cells #[] 70):=⟨_,rfl⟩
    rw [← hw_49] at hC hS hnew hq
    change wpAnyH _ _ _ _ _ _ _ _ (w_41.alloc (.cells #[] 70))
    rw [← hw_49]
    obtain ⟨bs,hbs⟩:∃ B,B=w_41.heap.size:=⟨_,rfl⟩
    rw [← hbs] at hnew hzn ⊢
    have hs:=hnew
    have hzs:=hzn
    clear hw_49 hbs hb
    refine rd_ [0] ?_
    refine ah1 rfl fun K hK=>?_
    go_simp
    refine hK.out _ _ (S1.ext ((Below.refl _ _).alloc lr_ (.cells #[] 38)) hS) (fun hS=>?_)
    clear hK K
    (try simp only [Act.put,pu1,pu2,pu3])
    have hb:Below w_49.heap.size w_49 (w_49.alloc (.cells #[] 38)):=(Below.refl _ _).alloc lr_ _
    have hnew:(w_49.alloc (.cells #[] 38)).ownsRow V1.heap.size 38 2 (.slice (some ⟨w_49.heap.size,0,none⟩) 0 0) 0 []:=own_emptyB2 _ _ _ _ hC.size
    have hzn:V1.heap.size≤w_49.heap.size:=hC.size
    have hC:=bt_ hC hb
    have hs:=own_ex hs hb
    have hq:=hq.ext hb
    obtain ⟨w_50,hw_50⟩:∃ W,W=w_49.alloc (.cells #[] 38):=⟨_,rfl⟩
    rw [← hw_50] at hC hS hnew hs hq
    change wpAnyH _ _ _ _ _ _ _ _ (w_49.alloc (.cells #[] 38))
    rw [← hw_50]
    obtain ⟨bp,hbp⟩:∃ B,B=w_49.heap.size:=⟨_,rfl⟩
    rw [← hbp] at hnew hzn ⊢
    have hp:=hnew
    have hzp:=hzn
    clear hw_50 hbp hb
    refine rd_ [3] ?_
    refine ah1 rfl fun K hK=>?_
    (refine step_app0 (by rfl) (.tmp 8) (.tmp 10) 27 (by rfl) (base:=V1.heap.size) (B:=V1.heap.size) (e:=38) (i:=i0) (size:=2) (bytes:=16) Tryz.underlying27 hi0 hiz0 hiz1 hiz2 rfl (by decide) (by rfl) (by rfl) hp (m:=pn) (HPP.out.ext hC lr_) (flat_ones pp_one _) (by unfold maxLen;omega) (by omega) hC.size ?_)
    intro v_ w_51 hnew hg hbA
    obtain ⟨A1,c1,rfl,hccA1⟩:=own_slice hnew
    have hrow:=hp
    have hg:w_50.grownBy w_51 (Value.slice (some ⟨bp,0,none⟩) 0 0).ownBlock:=hg
    have hC:=hC.trans hbA
    refine hK.out _ _ (S1.grown (B:=bp) hg hS (by omega) (by omega)) (fun hS=>?_)
    clear hK K
    (try simp only [Act.put,pu1,pu2,pu3])
    have hs:=own_other hs hrow ty_ne.2.2.1.symm hg
    have hq:=hq.kept hg (own_ne hrow hq (by decide))
    have hp:=hnew
    clear hrow hg hbA
    refine rd_ [7] ?_
    refine ah1 rfl fun K hK=>?_
    (refine step_app0 (by rfl) (.tmp 12) (.tmp 14) 30 (by rfl) (base:=V1.heap.size) (B:=V1.heap.size) (e:=70) (i:=j0) (size:=7) (bytes:=56) Tryz.underlying30 hj0 hjz0 hjz1 hjz2 rfl (by decide) (by rfl) (by rfl) hs (m:=sn) (HSS.out.ext hC lr_) (flat_ones sg_one _) (by unfold maxLen;omega) (by omega) hC.size ?_)
    intro v_ w_52 hnew hg hbA
    obtain ⟨A4,c4,rfl,hccA4⟩:=own_slice hnew
    have hrow:=hs
    have hg:w_51.grownBy w_52 (Value.slice (some ⟨bs,0,none⟩) 0 0).ownBlock:=hg
    have hC:=hC.trans hbA
    refine hK.out _ _ (S1.grown (B:=bs) hg hS (by omega) (by omega)) (fun hS=>?_)
    clear hK K
    (try simp only [Act.put,pu1,pu2,pu3])
    have hp:=own_other hp hrow ty_ne.2.2.1 hg
    have hq:=hq.kept hg (own_ne hrow hq (by decide))
    have hs:=hnew
    clear hrow hg hbA
    (refine tk_ (i:=8) (v:=?_) rfl ?_ hS ?_;rotate_left;focus (intro w2 hw2;(try unfold S1 at hw2);go_split_ands;go_simp;first | done | with_reducible rfl);(try simp only [Act.put,pu1,pu2,pu3]))
    have kq:=hq.cell
    have zq:=hq.lt
    have fq:=hq.frozen
    refine rd_ [10] ?_
    refine ah1 rfl fun K hK=>?_
    go_simp
    refine hK.out _ _ (S1.grown (grown_setCells qo [.slice A1 pn c1,.slice none 0 0,.slice none 0 0,.slice A4 sn c4] 0 w_52) hS (by omega) (by omega)) (fun hS=>?_)
    clear hK K kq zq fq
    (try simp only [Act.put,pu1,pu2,pu3])
    refine wpAnyH_done (by kernel_rfl) ?_ _
    exact ⟨qo,A1,c1,A4,c4,IsFr2.of rfl,cc_fin hV0 hC hq hz hp hs⟩
 case rest =>
  clear hf1 hV0 HPP HSS HW0
  rintro a' W1 ⟨qo,A1,c1,A4,c4,⟨u,rfl⟩,hS1,hp1,hs1⟩
  go_wp2
  go_loopw [4] (fun i wr=>∃ (k:Nat) (ys:List Rv) (AR:Option Addr) (cR:Nat),k≤rn∧i=.int .i64 k∧CcS w wr #[.slice pA pn pc,.slice rA rn rc,.slice tA tn tc,.slice sA sn sc] #[.slice A1 pn c1,.slice AR k cR,.slice none 0 0,.slice A4 sn c4] qo∧wr.ownsRow (w.heap.size+2) 38 2 (.slice A1 pn c1) pn (l.pp.flatMap ppC)∧wr.ownsRow (w.heap.size+2) 70 7 (.slice A4 sn c4) sn (l.sg.flatMap sgC)∧wr.ownsRow (w.heap.size+2) 79 7 (.slice AR k cR) k (ys.flatMap rvC)∧CkR wr (w.heap.size+2) l.rc ys k) (fun i _=>rn - (intOf i).toNat)
  case atStart=>exact ⟨0,[],none,0,by omega,rfl,hS1,hp1,hs1,World.ownsRow_nil _ _ _ _,rfl,by simp⟩
  case round =>
   obtain ⟨k,ys,AR,cR,hk,rfl,hS,hp,hg,hr,hc⟩:=hrel
   have hsB:=hS.hB.size
   have hzq:=hS.zq
   have kL:=hS.bL.cell
   have zL:=hS.bL.lt
   have HS:=hd_ hS
   have HP:=hd_ hp
   have HG:=hd_ hg
   have HR:=hd_ hr
   have HC:=hd_ hc
   have hyl:ys.length=k:=own_len hr (fun _=>rfl) (by omega)
   have HYL:=hd_ hyl
   have zZ:=hS.bZ.lt
   clear hS1 hp1 hs1 hS hp hg hr hc hyl
   by_cases hlt:k<rn
   ·obtain ⟨b,o,v,rfl,hb,hv,⟨v0,v1,v2,v3,v4,v5,v6⟩,hvi⟩:=(HX.out.keep abV fun b o hb=>HS.out.hB.cell (p:=⟨b,o,none⟩) hb).at_ hlt
    have hbr:b<wr.heap.size:=Nat.lt_of_lt_of_le hb HS.out.hB.size
    have hvn:=HRV.out v (List.mem_of_getElem? hv)
    have HV:=hd_ hv
    have HVI:Hid (Is wr w.heap.size v.A v.n v.r.lv):=by show Is _ _ _ _ _;exact hvi.1
    have HBc:Hid (Below wr.heap.size wr ((wr.alloc (.cells #[.int .i64 v.r.src,.int .i64 v.r.bor,.int .i64 v.r.pap,.slice v.A v.n v.c,.int .i64 v.r.day,.int .i64 v.r.kn,.int .i64 v.r.un] 79)).alloc (.cells #[] 3))):=hd_ (((Below.refl wr.heap.size wr).alloc lr_ _).alloc (by simp) _)
    have HBb:Hid (Below w.heap.size w ((wr.alloc (.cells #[.int .i64 v.r.src,.int .i64 v.r.bor,.int .i64 v.r.pap,.slice v.A v.n v.c,.int .i64 v.r.day,.int .i64 v.r.kn,.int .i64 v.r.un] 79)).alloc (.cells #[] 3))):=hd_ ((HS.out.hB.alloc hsB _).alloc (by simp;omega) _)
    have HBR:Hid (BoxA ((wr.alloc (.cells #[.int .i64 v.r.src,.int .i64 v.r.bor,.int .i64 v.r.pap,.slice v.A v.n v.c,.int .i64 v.r.day,.int .i64 v.r.kn,.int .i64 v.r.un] 79)).alloc (.cells #[] 3)) wr.heap.size 79 #[.int .i64 v.r.src,.int .i64 v.r.bor,.int .i64 v.r.pap,.slice v.A v.n v.c,.int .i64 v.r.day,.int .i64 v.r.kn,.int .i64 v.r.un]):=hd_ ((BoxA.new _ _ _).alloc _)
    have HE:=hd_ (show ((wr.alloc (.cells #[.int .i64 v.r.src,.int .i64 v.r.bor,.int .i64 v.r.pap,.slice v.A v.n v.c,.int .i64 v.r.day,.int .i64 v.r.kn,.int .i64 v.r.un] 79)).alloc (.cells #[] 3)).ownsRow (w.heap.size+2) 3 1 (.slice (some ⟨wr.heap.size+1,0,none⟩) 0 0) 0 [] from by
     have h:=own_emptyB2 (wr.alloc (.cells #[.int .i64 v.r.src,.int .i64 v.r.bor,.int .i64 v.r.pap,.slice v.A v.n v.c,.int .i64 v.r.day,.int .i64 v.r.kn,.int .i64 v.r.un] 79)) 3 1 (w.heap.size+2) (by simp;omega)
     simp only [World.size_alloc] at h
     exact h)
    clear hv hvi
    go_wp2_with (first | (at_builtin;refine wpList_app0 rfl (.tmp 29) (.tmp 31) 33 rfl (base:=w.heap.size+2) (B:=w.heap.size) (e:=3) (i:=m0) (size:=1) (bytes:=8) (v:=.slice (some ⟨wr.heap.size+1,0,none⟩) 0 0) Tryz.underlying33 hm0 hmz0 hmz1 hmz2 rfl (by decide) rfl rfl HE.out (m:=v.n) (news:=intL v.r.lv) (Is.ext HVI.out HBc.out hsB) (in_one _) (by unfold maxLen;omega) (by omega) (by simp;omega) ?_;intro v2 w2 hown2 hgrow2 _;obtain ⟨A2,c2,rfl,hcc2⟩:=own_slice hown2;have hbw:Below wr.heap.size wr w2:=((Below.refl wr.heap.size wr).alloc lr_ _).alloc (by simp) _ |>.grown hgrow2 (by simp;omega) (fun b e=>by simp [Value.ownBlock] at e;omega);have bR2:BoxA w2 wr.heap.size 79 #[.int .i64 v.r.src,.int .i64 v.r.bor,.int .i64 v.r.pap,.slice v.A v.n v.c,.int .i64 v.r.day,.int .i64 v.r.kn,.int .i64 v.r.un]:=HBR.out.kept hgrow2 (by simp [Value.ownBlock]);have kR2:=bR2.cell;have zR2:=bR2.lt;have fR2:=bR2.frozen;have HBW:=hd_ hbw;have HBR2:=hd_ bR2;have HN2:=hd_ hown2;have kO2:=(HS.out.ext hbw).bO.cell;have zO2:=(HS.out.ext hbw).bO.lt;have hz2:=hbw.size;have HBW4:Hid (Below wr.heap.size wr ((w2.setCell ⟨wr.heap.size,3,none⟩ (.slice A2 v.n c2)).alloc (.cells (rvC (Rv.mk v.r A2 v.n c2)).toArray 79))):=hd_ ((hbw.setCell lr_ _).alloc (by simpa using hz2) _);have HR4:=hd_ (own_ex HR.out HBW4.out);clear hbw bR2 hown2 hgrow2) | (at_builtin;refine wpList_append_own _ rfl (.tmp 35) (.tmp 37) 28 rfl (w.heap.size+2) 79 r0 _ 7 72 Tryz.underlying28 hr0 hrz0 hrz1 hrz2 rfl (by decide) _ _ _ rfl HR4.out ⟨w2.heap.size,0,none⟩ 1 1 (rvC (Rv.mk v.r A2 v.n c2)) rfl rfl ?c1 ?c2 ?c3 ?c4 ?c5 ?_;rotate_left 5;intro v4 w4 hown4 hgrow4 _;have HS4:=hd_ ((HS.out.ext HBW4.out).grow HR4.out (by decide) (by omega) hgrow4);have HG4:=hd_ hgrow4;have HN4:=hd_ hown4;obtain ⟨AR',cR',rfl,hcc4⟩:=own_slice hown4;have kO4:=HS4.out.bO.cell;have zO4:=HS4.out.bO.lt;have fO4:=HS4.out.bO.frozen;clear hown4 hgrow4 kR2 zR2 fR2 kO2 zO2))
    case c1 =>
     intro j u hj
     rw [Addr.add_lit,Nat.zero_add]
     have hN:=BoxA.new (w2.setCell ⟨wr.heap.size,3,none⟩ (.slice A2 v.n c2)) 79 (rvC (Rv.mk v.r A2 v.n c2)).toArray
     rw [World.size_setCell] at hN
     rw [hN.cell]
     simpa using hj
    case c2=>simp [Value.oneCell']
    case c3=>unfold maxLen;omega
    case c4=>omega
    case c5=>simp;omega
    go_roundw
    case rel =>
     refine ⟨k+1,ys ++ [(Rv.mk v.r A2 v.n c2)],AR',cR',by omega,by go_num,HS4.out.set 1 _,?_,?_,?_,?_,?_⟩
     ·exact own_bset (own_other (own_ex HP.out HBW4.out) HR4.out ty_ne.1 HG4.out) HS4.out.bO (by decide) _
     ·exact own_bset (own_other (own_ex HG.out HBW4.out) HR4.out ty_ne.2.2.2.2.1.symm HG4.out) HS4.out.bO (by decide) _
     ·have h:=own_bset (o:=1) HN4.out HS4.out.bO (by decide) (.slice AR' (k+1) cR')
      have e1:(ys ++ [(Rv.mk v.r A2 v.n c2)]).flatMap rvC=ys.flatMap rvC ++ rvC (Rv.mk v.r A2 v.n c2):=by simp
      rw [e1]
      exact h
     ·rw [List.map_append,HC.out.r,List.map_cons,List.map_nil]
      have h1:l.rc[k]?=some v.r:=by rw [← HXS.out,List.getElem?_map,HV.out];rfl
      rw [take_snoc_some h1]
     ·intro z hz
      rcases List.mem_append.1 hz with h1 | h1
      ·exact own_bset (own_other (own_ex (HC.out.own z h1) HBW4.out) HR4.out ty_ne.2.2.2.2.2.2.2.1 HG4.out) HS4.out.bO (by decide) _
      ·obtain rfl:z=(Rv.mk v.r A2 v.n c2):=by simpa using h1
       exact own_bset (own_other (((own_bset HN2.out HBR2.out (by decide) _).alloc _)) HR4.out ty_ne.2.2.2.2.2.2.2.1 HG4.out) HS4.out.bO (by decide) _
    case measure=>exact ms_
   ·obtain rfl:rn=k:=by omega
    clear hk hlt HX HRV
    go_wp2
    go_loopw [6] (fun i wr=>∃ (k:Nat) (zs:List Tv) (AT:Option Addr) (cT:Nat),k≤tn∧i=.int .i64 k∧CcS w wr #[.slice pA pn pc,.slice rA rn rc,.slice tA tn tc,.slice sA sn sc] #[.slice A1 pn c1,.slice AR rn cR,.slice AT k cT,.slice A4 sn c4] qo∧wr.ownsRow (w.heap.size+2) 38 2 (.slice A1 pn c1) pn (l.pp.flatMap ppC)∧wr.ownsRow (w.heap.size+2) 70 7 (.slice A4 sn c4) sn (l.sg.flatMap sgC)∧wr.ownsRow (w.heap.size+2) 79 7 (.slice AR rn cR) rn (ys.flatMap rvC)∧CkR wr (w.heap.size+2) l.rc ys rn∧wr.ownsRow (w.heap.size+2) 75 8 (.slice AT k cT) k (zs.flatMap tvC)∧CkT wr (w.heap.size+2) l.rt zs k) (fun i _=>tn - (intOf i).toNat)
    case atStart=>exact ⟨0,[],none,0,by omega,rfl,HS.out,HP.out,HG.out,HR.out,HC.out,World.ownsRow_nil _ _ _ _,rfl,by simp⟩
    case round =>
     obtain ⟨k,zs,AT,cT,hk,rfl,hS,hp,hg,hq,hd,hr,hc⟩:=hrel
     have hsB:=hS.hB.size
     have hzq:=hS.zq
     have kL:=hS.bL.cell
     have zL:=hS.bL.lt
     have HS:=hd_ hS
     have HP:=hd_ hp
     have HG:=hd_ hg
     have HQ:=hd_ hq
     have HD:=hd_ hd
     have HR:=hd_ hr
     have HC:=hd_ hc
     have hyl:zs.length=k:=own_len hr (fun _=>rfl) (by omega)
     have HYL:=hd_ hyl
     have zZ:=hS.bZ.lt
     clear hS hp hg hq hd hr hc hyl
     by_cases hlt:k<tn
     ·obtain ⟨b,o,v,rfl,hb,hv,v0,v1,v2,v3,v4,v5,v6,v7⟩:=at_Rtn HTT.out HTL.out HS.out.hB lr_ hlt
      have hbr:b<wr.heap.size:=Nat.lt_of_lt_of_le hb HS.out.hB.size
      have hvn:=(HTV.out v (List.mem_of_getElem? hv)).2
      have HV:=hd_ hv
      have HVI:Hid (Is wr w.heap.size v.A v.n v.r.lv):=by show Is _ _ _ _ _;exact Is.ext (HTV.out v (List.mem_of_getElem? hv)).1 HS.out.hB lr_
      have HBc:Hid (Below wr.heap.size wr ((wr.alloc (.cells #[.int .i64 v.r.src,.int .i64 v.r.rcp,.int .i64 v.r.per,.slice v.A v.n v.c,.int .i64 v.r.lo,.int .i64 v.r.hi,.int .i64 v.r.kn,.int .i64 v.r.un] 75)).alloc (.cells #[] 3))):=hd_ (((Below.refl wr.heap.size wr).alloc lr_ _).alloc (by simp) _)
      have HBb:Hid (Below w.heap.size w ((wr.alloc (.cells #[.int .i64 v.r.src,.int .i64 v.r.rcp,.int .i64 v.r.per,.slice v.A v.n v.c,.int .i64 v.r.lo,.int .i64 v.r.hi,.int .i64 v.r.kn,.int .i64 v.r.un] 75)).alloc (.cells #[] 3))):=hd_ ((HS.out.hB.alloc hsB _).alloc (by simp;omega) _)
      have HBR:Hid (BoxA ((wr.alloc (.cells #[.int .i64 v.r.src,.int .i64 v.r.rcp,.int .i64 v.r.per,.slice v.A v.n v.c,.int .i64 v.r.lo,.int .i64 v.r.hi,.int .i64 v.r.kn,.int .i64 v.r.un] 75)).alloc (.cells #[] 3)) wr.heap.size 75 #[.int .i64 v.r.src,.int .i64 v.r.rcp,.int .i64 v.r.per,.slice v.A v.n v.c,.int .i64 v.r.lo,.int .i64 v.r.hi,.int .i64 v.r.kn,.int .i64 v.r.un]):=hd_ ((BoxA.new _ _ _).alloc _)
      have HE:=hd_ (show ((wr.alloc (.cells #[.int .i64 v.r.src,.int .i64 v.r.rcp,.int .i64 v.r.per,.slice v.A v.n v.c,.int .i64 v.r.lo,.int .i64 v.r.hi,.int .i64 v.r.kn,.int .i64 v.r.un] 75)).alloc (.cells #[] 3)).ownsRow (w.heap.size+2) 3 1 (.slice (some ⟨wr.heap.size+1,0,none⟩) 0 0) 0 [] from by
       have h:=own_emptyB2 (wr.alloc (.cells #[.int .i64 v.r.src,.int .i64 v.r.rcp,.int .i64 v.r.per,.slice v.A v.n v.c,.int .i64 v.r.lo,.int .i64 v.r.hi,.int .i64 v.r.kn,.int .i64 v.r.un] 75)) 3 1 (w.heap.size+2) (by simp;omega)
       simp only [World.size_alloc] at h
       exact h)
      clear hv
      go_wp2_with (first | (at_builtin;refine wpList_app0 rfl (.tmp 52) (.tmp 54) 33 rfl (base:=w.heap.size+2) (B:=w.heap.size) (e:=3) (i:=m0) (size:=1) (bytes:=8) (v:=.slice (some ⟨wr.heap.size+1,0,none⟩) 0 0) Tryz.underlying33 hm0 hmz0 hmz1 hmz2 rfl (by decide) rfl rfl HE.out (m:=v.n) (news:=intL v.r.lv) (Is.ext HVI.out HBc.out hsB) (in_one _) (by unfold maxLen;omega) (by omega) (by simp;omega) ?_;intro v2 w2 hown2 hgrow2 _;obtain ⟨A2,c2,rfl,hcc2⟩:=own_slice hown2;have hbw:Below wr.heap.size wr w2:=((Below.refl wr.heap.size wr).alloc lr_ _).alloc (by simp) _ |>.grown hgrow2 (by simp;omega) (fun b e=>by simp [Value.ownBlock] at e;omega);have bR2:BoxA w2 wr.heap.size 75 #[.int .i64 v.r.src,.int .i64 v.r.rcp,.int .i64 v.r.per,.slice v.A v.n v.c,.int .i64 v.r.lo,.int .i64 v.r.hi,.int .i64 v.r.kn,.int .i64 v.r.un]:=HBR.out.kept hgrow2 (by simp [Value.ownBlock]);have kR2:=bR2.cell;have zR2:=bR2.lt;have fR2:=bR2.frozen;have HBW:=hd_ hbw;have HBR2:=hd_ bR2;have HN2:=hd_ hown2;have kO2:=(HS.out.ext hbw).bO.cell;have zO2:=(HS.out.ext hbw).bO.lt;have hz2:=hbw.size;have HBW4:Hid (Below wr.heap.size wr ((w2.setCell ⟨wr.heap.size,3,none⟩ (.slice A2 v.n c2)).alloc (.cells (tvC (Tv.mk v.r A2 v.n c2)).toArray 75))):=hd_ ((hbw.setCell lr_ _).alloc (by simpa using hz2) _);have HR4:=hd_ (own_ex HR.out HBW4.out);clear hbw bR2 hown2 hgrow2) | (at_builtin;refine wpList_append_own _ rfl (.tmp 58) (.tmp 60) 29 rfl (w.heap.size+2) 75 t0 _ 8 80 Tryz.underlying29 ht0 htz0 htz1 htz2 rfl (by decide) _ _ _ rfl HR4.out ⟨w2.heap.size,0,none⟩ 1 1 (tvC (Tv.mk v.r A2 v.n c2)) rfl rfl ?c1 ?c2 ?c3 ?c4 ?c5 ?_;rotate_left 5;intro v4 w4 hown4 hgrow4 _;have HS4:=hd_ ((HS.out.ext HBW4.out).grow HR4.out (by decide) (by omega) hgrow4);have HG4:=hd_ hgrow4;have HN4:=hd_ hown4;obtain ⟨AT',cT',rfl,hcc4⟩:=own_slice hown4;have kO4:=HS4.out.bO.cell;have zO4:=HS4.out.bO.lt;have fO4:=HS4.out.bO.frozen;clear hown4 hgrow4 kR2 zR2 fR2 kO2 zO2))
      case c1 =>
       intro j u hj
       rw [Addr.add_lit,Nat.zero_add]
       have hN:=BoxA.new (w2.setCell ⟨wr.heap.size,3,none⟩ (.slice A2 v.n c2)) 75 (tvC (Tv.mk v.r A2 v.n c2)).toArray
       rw [World.size_setCell] at hN
       rw [hN.cell]
       simpa using hj
      case c2=>simp [Value.oneCell']
      case c3=>unfold maxLen;omega
      case c4=>omega
      case c5=>simp;omega
      go_roundw
      case rel =>
       refine ⟨k+1,zs ++ [(Tv.mk v.r A2 v.n c2)],AT',cT',by omega,by go_num,HS4.out.set 2 _,?_,?_,?_,?_,?_,?_,?_⟩
       ·exact own_bset (own_other (own_ex HP.out HBW4.out) HR4.out ty_ne.2.1 HG4.out) HS4.out.bO (by decide) _
       ·exact own_bset (own_other (own_ex HG.out HBW4.out) HR4.out ty_ne.2.2.2.2.2.1.symm HG4.out) HS4.out.bO (by decide) _
       ·exact own_bset (own_other (own_ex HQ.out HBW4.out) HR4.out ty_ne.2.2.2.1 HG4.out) HS4.out.bO (by decide) _
       ·exact ⟨HD.out.r,fun z hz=>own_bset (own_other (own_ex (HD.out.own z hz) HBW4.out) HR4.out ty_ne.2.2.2.2.2.2.2.2.1 HG4.out) HS4.out.bO (by decide) _⟩
       ·have h:=own_bset (o:=2) HN4.out HS4.out.bO (by decide) (.slice AT' (k+1) cT')
        have e1:(zs ++ [(Tv.mk v.r A2 v.n c2)]).flatMap tvC=zs.flatMap tvC ++ tvC (Tv.mk v.r A2 v.n c2):=by simp
        rw [e1]
        exact h
       ·rw [List.map_append,HC.out.r,List.map_cons,List.map_nil]
        have h1:l.rt[k]?=some v.r:=by rw [← HTS.out,List.getElem?_map,HV.out];rfl
        rw [take_snoc_some h1]
       ·intro z hz
        rcases List.mem_append.1 hz with h1 | h1
        ·exact own_bset (own_other (own_ex (HC.out.own z h1) HBW4.out) HR4.out ty_ne.2.2.2.2.2.2.2.2.1 HG4.out) HS4.out.bO (by decide) _
        ·obtain rfl:z=(Tv.mk v.r A2 v.n c2):=by simpa using h1
         exact own_bset (own_other (((own_bset HN2.out HBR2.out (by decide) _).alloc _)) HR4.out ty_ne.2.2.2.2.2.2.2.2.1 HG4.out) HS4.out.bO (by decide) _
      case measure=>exact ms_
     ·obtain rfl:tn=k:=by omega
      have hCop:Cop wr (w.heap.size+2) ⟨A1,pn,c1,AR,rn,cR,AT,tn,cT,A4,sn,c4⟩ l.pp ys zs l.sg:=⟨HP.out,HQ.out,HR.out,HG.out,HD.out.own,HC.out.own⟩
      have kO:=HS.out.bO.cell
      have zO:=HS.out.bO.lt
      have kZ:=HS.out.bZ.cell
      have fZ:=HS.out.bZ.frozen
      obtain ⟨W2,hW2⟩:∃ W2,W2=wr.setCells (w.heap.size+1) 0 [.slice A1 pn c1,.slice AR rn cR,.slice AT tn cT,.slice A4 sn c4]:=⟨_,rfl⟩
      have bZ2:BoxA W2 (w.heap.size+1) 32 #[.slice A1 pn c1,.slice AR rn cR,.slice AT tn cT,.slice A4 sn c4]:=by rw [hW2];exact HS.out.bZ.setAll [.slice A1 pn c1,.slice AR rn cR,.slice AT tn cT,.slice A4 sn c4] rfl
      have hB2:Below w.heap.size w W2:=by rw [hW2];exact HS.out.hB.grown (grown_setCells _ _ _ _) HS.out.hB.size (fun b e=>by cases e;omega)
      have HC9:Cop W2 (w.heap.size+2) ⟨A1,pn,c1,AR,rn,cR,AT,tn,cT,A4,sn,c4⟩ l.pp ys zs l.sg:=by rw [hW2];exact hCop.kept HS.out.bZ (grown_setCells _ _ _ _)
      have HCF:=hd_ HC9
      have kz2:=bZ2.cell
      have zz2:=bZ2.lt
      have HW2:=hd_ hW2
      clear hW2 HC9 hCop
      go_wp2
      refine bodyPost_w (W2:=W2) (by rw [HW2.out];rfl) ?_
      refine bodyPost_ret (v:=.agg #[.slice A1 pn c1,.slice AR rn cR,.slice AT tn cT,.slice A4 sn c4]) ?_ rfl ?_
      ·(simp [results,Tryz.f100,go_sem];try go_simp)
      ·exact ⟨⟨A1,pn,c1,AR,rn,cR,AT,tn,cT,A4,sn,c4⟩,ys,zs,rfl,hB2,HCF.out.dn (by omega),by rw [HD.out.r,List.take_of_length_le (Nat.le_of_eq HRL.out)],by rw [HC.out.r,List.take_of_length_le (Nat.le_of_eq HTL2.out)]⟩
end Go.Proofs.YtmcmbicapdcfmaaGreat
