/- Layer 2 of the texts that LoanMoves takes: Mbpq. -/
import Derived.Test.YtmcmbicapdcfmaaGreatLqp
import Derived.Test.YtmcmbicapdcfmaaGreatMboq
set_option linter.unusedVariables false
set_option linter.unusedSimpArgs false
set_option maxHeartbeats 16000000
namespace Go.Proofs.YtmcmbicapdcfmaaGreat
open Go.RowKit Go.Maps
def lastV (M:List ((Int × Int) × Nat)) (R:List Rcp) (leaf:Int):Option (Nat × Int)→Int × Int × Int
 | none=>(0,-1,-1)
 | some p=>match R[p.1]? with
   | none=>(0,-1,-1)
   | some r=>(r.bor,backI M r.src leaf,p.2)
theorem stay_last (R:List Rcp) (kn pap leaf day:Int) (M:List ((Int × Int) × Nat)) (h0:∀ r∈R,0≤r.day):∀ k,stayL M leaf day (((R.take k).filter fun r=>countsB r.kn r.un kn).filter (isOfB pap leaf))=lastV M R leaf (lastK kn pap leaf day R k)
 | 0=>by simp [stayL,lastK,lastV]
 | k+1=>by
   have ih:=stay_last R kn pap leaf day M h0 k
   rw [lastK_succ,lastStep]
   cases hr:R[k]? with
   | none =>
     have hl:R.length≤k:=by simpa using hr
     have e:R.take (k+1)=R.take k:=by rw [List.take_of_length_le (by omega),List.take_of_length_le hl]
     rw [e]
     exact ih
   | some r =>
     rw [take_snoc_some hr,List.filter_append,List.filter_append]
     dsimp only
     have hd0:=h0 r (List.mem_of_getElem? hr)
     cases hc:countsB r.kn r.un kn with
     | false=>simpa [hc] using ih
     | true =>
       cases ho:isOfB pap leaf r with
       | false=>simpa [hc,ho] using ih
       | true =>
         have e:(([r].filter fun r=>countsB r.kn r.un kn).filter (isOfB pap leaf))=[r]:=by simp [hc,ho]
         rw [e,stayL_snoc,ih]
         cases hL:lastK kn pap leaf day R k with
         | none =>
           by_cases h1:r.day≤day
           ·rw [if_pos (by simp [h1,newer])]
            have h2:¬ (day<r.day∨r.day≤((0:Int),(-1:Int),(-1:Int)).2.2):=by dsimp only;omega
            show stayStep M leaf day (0,-1,-1) r=_
            rw [stayStep,if_neg h2]
            simp [lastV,hr]
           ·rw [if_neg (by simp [h1])]
            have h2:day<r.day∨r.day≤((0:Int),(-1:Int),(-1:Int)).2.2:=by dsimp only;omega
            show stayStep M leaf day (0,-1,-1) r=_
            rw [stayStep,if_pos h2]
            rfl
         | some p =>
           obtain ⟨j,d⟩:=p
           obtain ⟨_,r2,hr2,hd2⟩:=lastK_at hL
           have e2:lastV M R leaf (some (j,d))=(r2.bor,backI M r2.src leaf,d):=by simp [lastV,hr2]
           rw [e2]
           by_cases h1:r.day≤day∧d<r.day
           ·rw [if_pos (by simp [h1.1,h1.2,newer])]
            have h2:¬ (day<r.day∨r.day≤(r2.bor,backI M r2.src leaf,d).2.2):=by dsimp only;omega
            rw [stayStep,if_neg h2]
            simp [lastV,hr]
           ·rw [if_neg (by simp only [newer,Bool.true_and,Bool.and_eq_true,decide_eq_true_eq];exact h1)]
            have h2:day<r.day∨r.day≤(r2.bor,backI M r2.src leaf,d).2.2:=by dsimp only;omega
            rw [stayStep,if_pos h2,e2]
theorem stayF_last (l:Led) (kn pap leaf day:Int) (M:List ((Int × Int) × Nat)) (h0:∀ r∈l.rc,0≤r.day):stayF M (cntR l kn) pap leaf day=lastV M l.rc leaf (lastK kn pap leaf day l.rc l.rc.length):=by
 have h:=stay_last l.rc kn pap leaf day M h0 l.rc.length
 rw [List.take_of_length_le lr_] at h
 exact h
theorem back_rt (l:Led) (kn src leaf:Int):backI (opnL l kn).M src leaf=ixI (rtIx (opnL l kn).T l.rt src leaf):=by
 rw [backI,opn_rt]
 cases rtIx (opnL l kn).T l.rt src leaf <;> rfl
theorem r_last_v (l:Led) (v:Vw) (pap leaf day k:Int) (w:World) (hn:v.x.rn≤1000000) (hd:LedIn w w.heap.size v.x l) (h:lastI (lastK v.kn pap leaf day l.rc l.rc.length)=k) :
 Calls Tryz.prog 104 #[vwV v,.agg #[.int .i64 pap,.int .i64 leaf],.int .i64 day] w fun e w'=>e=.returned (.int .i64 k)∧Below w.heap.size w w':=h ▸ r_last l v pap leaf day w hn hd
set_option maxRecDepth 10000 in
theorem r_look (l:Led) (x:Lsl) (kn:Int) (w:World) (hl:LedOk l) (hd:LedIn w w.heap.size x l) :
 Calls Tryz.prog 42 #[.agg #[.slice x.pA x.pn x.pc,.slice x.rA x.rn x.rc,.slice x.tA x.tn x.tc,.slice x.sA x.sn x.sc],.int .i64 kn] w fun e w'=>∃ B c,e=.returned (.agg #[.slice x.pA x.pn x.pc,.slice x.rA x.rn x.rc,.slice x.tA x.tn x.tc,.slice x.sA x.sn x.sc,.int .i64 kn,.slice (some ⟨B,0,none⟩) x.tn c,.slice none 0 0])∧Below w.heap.size w w'∧BoxA w' B 4 (boolL (tellK l kn l.rt.length)).toArray∧w.heap.size≤B:=by
 obtain ⟨pA,pn,pc,rA,rn,rc,tA,tn,tc,sA,sn,sc⟩:=x
 show Calls _ _ #[.agg #[.slice pA pn pc,.slice rA rn rc,.slice tA tn tc,.slice sA sn sc],_] _ _
 have HTE:Hid (∀ W:World,Below w.heap.size w W→Calls Tryz.prog 40 #[.agg #[.slice pA pn pc,.slice rA rn rc,.slice tA tn tc,.slice sA sn sc],.int .i64 kn] W (RetTl l kn tn W)):=by
  show ∀ _,_
  exact fun W hW=>r_telling l ⟨pA,pn,pc,rA,rn,rc,tA,tn,tc,sA,sn,sc⟩ kn W hl (hd.now hW)
 clear hd hl
 go_enter Tryz.func42,Tryz.ntmps42
 go_wp2_with fail
 refine wp_named2 fun f1 W4 hf1 hW4=>?_
 have bL:BoxA W4 w.heap.size 32 #[.slice pA pn pc,.slice rA rn rc,.slice tA tn tc,.slice sA sn sc]:=by (rw [← hW4];simp only [boxed_iff,boxa_iff,alloc_get,drew_heap,World.size_alloc];(repeat (first | rw [if_pos trivial] | rw [if_pos (by omega)] | rw [if_neg (by omega)])))
 have bZ:BoxA W4 (w.heap.size+1) 89 #[.slice none 0 0,.slice none 0 0,.slice none 0 0,.slice none 0 0,.int .i64 0,.slice none 0 0,.slice none 0 0]:=by (rw [← hW4];simp only [boxed_iff,boxa_iff,alloc_get,drew_heap,World.size_alloc];(repeat (first | rw [if_pos trivial] | rw [if_pos (by omega)] | rw [if_neg (by omega)])))
 have HB4:Below w.heap.size w W4:=by rw [← hW4];exact bel_
 have hs4:=HB4.size
 clear hW4
 subst hf1
 have kL:=bL.cell
 have zL:=bL.lt
 have zZ:=bZ.lt
 (refine wp_region_held_lit (S:=(fun V=>V.cell? ⟨w.heap.size,0,none⟩=some (.slice pA pn pc)∧V.cell? ⟨w.heap.size,1,none⟩=some (.slice rA rn rc)∧V.cell? ⟨w.heap.size,2,none⟩=some (.slice tA tn tc)∧V.cell? ⟨w.heap.size,3,none⟩=some (.slice sA sn sc))) 7 (by kernel_rfl) rfl ⟨(kL 0).trans rfl,(kL 1).trans rfl,(kL 2).trans rfl,(kL 3).trans rfl⟩ (fun hS=>?_);simp only [List.reduceReplicate,Array.replicate_succ,Array.replicate_zero])
 (refine tk_ (i:=0) (v:=?_) rfl ?_ hS ?_;rotate_left;focus (intro w2 hw2;go_split_ands;go_simp;first | done | with_reducible rfl);(try simp only [Act.put,pu1,pu2,pu3]))
 (refine tk_ (i:=1) (v:=?_) rfl ?_ hS ?_;rotate_left;focus (intro w2 hw2;go_split_ands;go_simp;first | done | with_reducible rfl);(try simp only [Act.put,pu1,pu2,pu3]))
 (refine tk_ (i:=2) (v:=?_) rfl ?_ hS ?_;rotate_left;focus (intro w2 hw2;go_split_ands;go_simp;first | done | with_reducible rfl);(try simp only [Act.put,pu1,pu2,pu3]))
 (refine tk_ (i:=3) (v:=?_) rfl ?_ hS ?_;rotate_left;focus (intro w2 hw2;go_split_ands;go_simp;first | done | with_reducible rfl);(try simp only [Act.put,pu1,pu2,pu3]))
 refine rd_ [4] ?_
 refine ah1 rfl fun K hK=>?_
 (go_simp;go_at_call 40;refine (HTE.out _ (by exact bel_)).mono ?_;rintro e w6 ⟨B,Tc,rfl,hb6,hT,hBB⟩;go_simp)
 have h6:Below W4.heap.size W4 w6:=bt_ (by exact bel_) hb6
 have bL6:=bL.ext h6
 have bZ6:=bZ.ext h6
 have kL6:=bL6.cell
 refine hK.out _ _ ⟨(kL6 0).trans rfl,(kL6 1).trans rfl,(kL6 2).trans rfl,(kL6 3).trans rfl⟩ (fun hS=>?_)
 clear hK K
 (try simp only [Act.put,pu1,pu2,pu3])
 (refine tk_ (i:=5) (v:=?_) rfl ?_ hS ?_;rotate_left;focus (intro w2 hw2;go_split_ands;go_simp;first | done | with_reducible rfl);(try simp only [Act.put,pu1,pu2,pu3]))
 have kZ:=bZ6.cell
 have zZ6:=bZ6.lt
 have fZ:=bZ6.frozen
 have HT:=hd_ hT
 have HBL6:=hd_ bL6
 have HBZ6:=hd_ bZ6
 have hBB2:W4.heap.size≤B:=hBB
 clear kL zL bL bZ bL6 bZ6 kL6 hT
 refine rd_ [6] ?_
 refine ah1 rfl fun K hK=>?_
 go_simp
 have n01:w.heap.size≠w.heap.size+1:=by omega
 have q:=(HBL6.out.other7 n01 (.slice pA pn pc) (.slice rA rn rc) (.slice tA tn tc) (.slice sA sn sc) (.int .i64 kn) (.slice (some ⟨B,0,none⟩) tn Tc) (.slice none 0 0)).cell
 refine hK.out _ _ ⟨(q 0).trans rfl,(q 1).trans rfl,(q 2).trans rfl,(q 3).trans rfl⟩ (fun hS=>?_)
 clear hK K q
 (try simp only [Act.put,pu1,pu2,pu3])
 refine wpAnyH_done (by kernel_rfl) ?_ _
 have bZ7:=HBZ6.out.set7 (.slice pA pn pc) (.slice rA rn rc) (.slice tA tn tc) (.slice sA sn sc) (.int .i64 kn) (.slice (some ⟨B,0,none⟩) tn Tc) (.slice none 0 0)
 have hz4:w.heap.size+1<W4.heap.size:=zZ
 have HT7:=hd_ (HT.out.other7 (show B≠w.heap.size+1 by omega) (.slice pA pn pc) (.slice rA rn rc) (.slice tA tn tc) (.slice sA sn sc) (.int .i64 kn) (.slice (some ⟨B,0,none⟩) tn Tc) (.slice none 0 0))
 have HB7:Below w.heap.size w (((((((w6.setCell ⟨w.heap.size+1,0,none⟩ (.slice pA pn pc)).setCell ⟨w.heap.size+1,1,none⟩ (.slice rA rn rc)).setCell ⟨w.heap.size+1,2,none⟩ (.slice tA tn tc)).setCell ⟨w.heap.size+1,3,none⟩ (.slice sA sn sc)).setCell ⟨w.heap.size+1,4,none⟩ (.int .i64 kn)).setCell ⟨w.heap.size+1,5,none⟩ (.slice (some ⟨B,0,none⟩) tn Tc)).setCell ⟨w.heap.size+1,6,none⟩ (.slice none 0 0)):=below_set7 (HB4.trans (h6.mono hs4)) (Nat.le_succ _) _ _ _ _ _ _ _
 have HZ7:=hd_ bZ7
 obtain ⟨W7,hW7⟩:∃ W7,(((((((w6.setCell ⟨w.heap.size+1,0,none⟩ (.slice pA pn pc)).setCell ⟨w.heap.size+1,1,none⟩ (.slice rA rn rc)).setCell ⟨w.heap.size+1,2,none⟩ (.slice tA tn tc)).setCell ⟨w.heap.size+1,3,none⟩ (.slice sA sn sc)).setCell ⟨w.heap.size+1,4,none⟩ (.int .i64 kn)).setCell ⟨w.heap.size+1,5,none⟩ (.slice (some ⟨B,0,none⟩) tn Tc)).setCell ⟨w.heap.size+1,6,none⟩ (.slice none 0 0))=W7:=⟨_,rfl⟩
 rw [hW7] at HT7 HZ7 HB7 ⊢
 clear hW7 bZ7 kZ zZ6 fZ hS hb6
 have kZ:=HZ7.out.cell
 have zZ:=HZ7.out.lt
 go_wp2
 refine bodyPost_ret (v:=.agg #[.slice pA pn pc,.slice rA rn rc,.slice tA tn tc,.slice sA sn sc,.int .i64 kn,.slice (some ⟨B,0,none⟩) tn Tc,.slice none 0 0]) ?_ rfl ?_
 ·(simp [results,Tryz.f42,go_sem];try go_simp)
 ·exact ⟨_,_,rfl,HB7,HT7.out,by omega⟩
end Go.Proofs.YtmcmbicapdcfmaaGreat
namespace Go.Proofs.YtmcmbicapdcfmaaGreat
open Go.RowKit Go.Shelf Go.Proofs
end Go.Proofs.YtmcmbicapdcfmaaGreat
namespace Go.Proofs.YtmcmbicapdcfmaaGreat
open Go.RowKit Go.Maps
def whoF (l:Led) (kn day:Int) (days:List Int) (pap leaf:Int):Int:=if (stayP (opnL l kn).M (cntR l kn) pap leaf day).2<0∨day<days.getD (stayP (opnL l kn).M (cntR l kn) pap leaf day).2.toNat 0 then (stayP (opnL l kn).M (cntR l kn) pap leaf day).1 else 0
def withR (days:List Int) (day bor:Int):Option Nat→Int
 | none=>bor
 | some k=>if day<days.getD k 0 then bor else 0
theorem wt_none {l:Led} {kn pap leaf day:Int} {days:List Int} (h0:∀ r∈l.rc,0≤r.day) (hL:lastK kn pap leaf day l.rc l.rc.length=none):whoF l kn day days pap leaf=0:=by
 rw [whoF,stayP,stayF_last l kn _ _ _ _ h0,hL]
 simp [lastV]
theorem wt_some {l:Led} {kn pap leaf day:Int} {days:List Int} {p:Nat × Int} {r:Rcp} (h0:∀ r∈l.rc,0≤r.day) (hL:lastK kn pap leaf day l.rc l.rc.length=some p) (hr:l.rc[p.1]?=some r):whoF l kn day days pap leaf=withR days day r.bor (rtIx (tellK l kn l.rt.length) l.rt r.src leaf):=by
 rw [whoF,stayP,stayF_last l kn _ _ _ _ h0,hL]
 simp only [lastV,hr,back_rt,opn_tell]
 cases rtIx (tellK l kn l.rt.length) l.rt r.src leaf with
 | none=>simp [ixI,withR]
 | some k =>
   have h1:¬ ((k:Int)<0):=by omega
   simp [ixI,withR,h1]
set_option maxRecDepth 10000 in
theorem r_With (l:Led) (v:Vw) (pap leaf day:Int) (days:List Int) (D:Option Addr) (c0:Nat) (w:World) (hl:LedOk l) (hTt:v.Tn=v.x.tn) (hd:LedIn w w.heap.size v.x l) (hT:Sq QB 1 w w.heap.size v.TA v.Tn (tellK l v.kn l.rt.length)) (hdy:Is w w.heap.size D v.Tn days) :
 Calls Tryz.prog 43 #[vwV v,.agg #[.int .i64 pap,.int .i64 leaf],.slice D v.Tn c0,.int .i64 day] w fun e w'=>e=.returned (.int .i64 (whoF l v.kn day days pap leaf))∧Below w.heap.size w w':=by
 obtain ⟨⟨pA,pn,pc,rA,rn,rc,tA,tn,tc,sA,sn,sc⟩,kn,TA,Tn,Tc,DA,Dn,Dc⟩:=v
 obtain rfl:Tn=tn:=hTt
 show Calls _ _ #[.agg #[.slice pA pn pc,.slice rA rn rc,.slice tA Tn tc,.slice sA sn sc,.int .i64 kn,.slice TA Tn Tc,.slice DA Dn Dc],_,.slice D Tn c0,_] _ fun e w'=>e=.returned (.int .i64 (whoF l kn day days pap leaf))∧Below w.heap.size w w'
 have HR:Hid (Rcs w w.heap.size rA rn l.rc):=by show Sq _ _ _ _ _ _ _;exact hd.r
 have HTL:Hid (l.rt.length=Tn):=by show _=_;exact hd.t.len
 have hrn6:rn≤1000000:=by have h:=HR.out.len;have h2:=hl.rn;omega
 have htn6:Tn≤1000000:=by have h:=HTL.out;have h2:=hl.tn;omega
 have h0:∀ r∈l.rc,0≤r.day:=fun r hr=>(hl.rc r hr).2.2.2.1
 have HDY:Hid (Is w w.heap.size D Tn days):=by show Is _ _ _ _ _;exact hdy
 have HLA:Hid (∀ (W:World) (k:Int),Below w.heap.size w W→lastI (lastK kn pap leaf day l.rc l.rc.length)=k→Calls Tryz.prog 104 #[.agg #[.slice pA pn pc,.slice rA rn rc,.slice tA Tn tc,.slice sA sn sc,.int .i64 kn,.slice TA Tn Tc,.slice DA Dn Dc],.agg #[.int .i64 pap,.int .i64 leaf],.int .i64 day] W fun e w'=>e=.returned (.int .i64 k)∧Below W.heap.size W w'):=by
  show ∀ _,_
  exact fun W k hW h=>r_last_v l ⟨⟨pA,pn,pc,rA,rn,rc,tA,Tn,tc,sA,sn,sc⟩,kn,TA,Tn,Tc,DA,Dn,Dc⟩ pap leaf day k W hrn6 (hd.now hW) h
 have HRO:Hid (∀ (W:World) (a:Nat) (x:Rcp) (k:Int),Below w.heap.size w W→l.rc[a]?=some x→ixI (rtIx (tellK l kn l.rt.length) l.rt x.src leaf)=k→Calls Tryz.prog 103 #[.agg #[.slice pA pn pc,.slice rA rn rc,.slice tA Tn tc,.slice sA sn sc,.int .i64 kn,.slice TA Tn Tc,.slice DA Dn Dc],.int .i64 a,.int .i64 leaf] W fun e w'=>e=.returned (.int .i64 k)∧Below W.heap.size W w'):=by
  show ∀ _,_
  exact fun W a x k hW ha h2=>r_returnOf_v l ⟨⟨pA,pn,pc,rA,rn,rc,tA,Tn,tc,sA,sn,sc⟩,kn,TA,Tn,Tc,DA,Dn,Dc⟩ _ a x leaf k W hrn6 htn6 rfl (hd.now hW) (hT.now abB hW) ha h2
 clear hd hT hdy hl
 cases hL:lastK kn pap leaf day l.rc l.rc.length with
 | none =>
   rw [wt_none h0 hL]
   have HLV:Hid (lastI (lastK kn pap leaf day l.rc l.rc.length)=-1):=by show _=_;rw [hL];rfl
   clear hL
   go_enter Tryz.func43,Tryz.ntmps43
   go_wp2_with fail
   refine (HLA.out _ (-1) (by exact bel_) HLV.out).mono ?_
   rintro e w3 ⟨rfl,hb3⟩
   have HB3:Below w.heap.size w w3:=bt_ (by exact bel_) hb3
   have hs3:=HB3.size
   go_wp2_with fail
   go_ret
   exact ⟨rfl,by exact bel_⟩
 | some p =>
   obtain ⟨a,dd⟩:=p
   obtain ⟨-,x,hx,-⟩:=lastK_at hL
   rw [wt_some h0 hL hx]
   have HLV:Hid (lastI (lastK kn pap leaf day l.rc l.rc.length)=(a:Int)):=by show _=_;rw [hL];rfl
   have hia:a<rn:=by rw [← HR.out.len];exact (List.getElem?_eq_some_iff.1 hx).1
   obtain ⟨bx,ox,x',rfl,hbx,hxx,A1,n1,c1,⟨-,g1,-,-,-,-,-⟩,-,-,-⟩:=HR.out.at_ hia
   obtain rfl:x=x':=Option.some.inj (hx.symm.trans hxx)
   have hxn:decide ((a:Int)<0)=false:=by simp
   obtain ⟨q,hq⟩:∃ q,rtIx (tellK l kn l.rt.length) l.rt x.src leaf=q:=⟨_,rfl⟩
   have HKI:Hid (ixI (rtIx (tellK l kn l.rt.length) l.rt x.src leaf)=ixI q):=by show _=_;rw [hq]
   have HQ:=hd_ hq
   rw [hq]
   have HX:=hd_ hx
   obtain ⟨bor,hbor⟩:∃ b,x.bor=b:=⟨_,rfl⟩
   rw [hbor] at g1 ⊢
   clear hL hx hxx hq hbor
   go_enter Tryz.func43,Tryz.ntmps43
   have bV0:=(BoxA.new w 89 #[.slice pA pn pc,.slice (some ⟨bx,ox,none⟩) rn rc,.slice tA Tn tc,.slice sA sn sc,.int .i64 kn,.slice TA Tn Tc,.slice DA Dn Dc]).alloc (.cells #[.int .i64 pap,.int .i64 leaf] 48)
   have bF0:BoxA ((w.alloc (.cells #[.slice pA pn pc,.slice (some ⟨bx,ox,none⟩) rn rc,.slice tA Tn tc,.slice sA sn sc,.int .i64 kn,.slice TA Tn Tc,.slice DA Dn Dc] 89)).alloc (.cells #[.int .i64 pap,.int .i64 leaf] 48)) (w.heap.size+1) 48 #[.int .i64 pap,.int .i64 leaf]:=by
    have h:=BoxA.new (w.alloc (.cells #[.slice pA pn pc,.slice (some ⟨bx,ox,none⟩) rn rc,.slice tA Tn tc,.slice sA sn sc,.int .i64 kn,.slice TA Tn Tc,.slice DA Dn Dc] 89)) 48 #[.int .i64 pap,.int .i64 leaf]
    simpa using h
   have HBV0:=hd_ bV0
   have HBF0:=hd_ bF0
   clear bV0 bF0
   go_wp2_with fail
   refine (HLA.out _ a (by exact bel_) HLV.out).mono ?_
   rintro e w3 ⟨rfl,hb3⟩
   have HB3:Below w.heap.size w w3:=bt_ (by exact bel_) hb3
   have hs3:=HB3.size
   have bV3:=HBV0.out.ext hb3
   have bF3:=HBF0.out.ext hb3
   have kV:=bV3.cell
   have zV:=bV3.lt
   have kF:=bF3.cell
   have zF:=bF3.lt
   have HBV3:=hd_ bV3
   clear hb3 bV3 bF3
   go_wp2_with fail
   refine (HRO.out _ a x (ixI q) HB3 HX.out HKI.out).mono ?_
   rintro e w4 ⟨rfl,hb4⟩
   have HB4:=bt_ HB3 hb4
   have hs4:=HB4.size
   have bV4:=HBV3.out.ext hb4
   clear kV zV kF zF
   have kV:=bV4.cell
   have zV:=bV4.lt
   have d1:=(HB4.cell (p:=⟨bx,ox+a*7+1,none⟩) hbx).trans g1
   have hbx4:bx<w4.heap.size:=by omega
   clear bV4 hb4
   cases q with
   | none =>
     have hneg:decide ((-1:Int)≥0)=false:=by decide
     simp only [ixI]
     go_wp2_with fail
     go_ret
     exact ⟨rfl,by exact bel_⟩
   | some i =>
     obtain ⟨-,t,ht,-,-⟩:=rt_some HQ.out
     have hit:i<Tn:=by rw [← HTL.out];exact (List.getElem?_eq_some_iff.1 ht).1
     have hin:decide ((i:Int)≥0)=true:=by simp
     have hmx:max (i:Int) 0=(i:Int):=by omega
     obtain ⟨bd,od,y,rfl,hbd,hy,hcy⟩:=HDY.out.at_ hit
     have hgd:days.getD i 0=y:=by rw [List.getD_eq_getElem?_getD,hy];rfl
     have e0:=(HB4.cell (p:=⟨bd,od+i,none⟩) hbd).trans hcy
     have hbd4:bd<w4.heap.size:=by omega
     have HRW:Hid (withR days day bor (some i)=if day<y then bor else 0):=by show _=_;simp only [withR,hgd]
     simp only [ixI]
     clear hgd hy ht hcy
     cases h1:decide (y≤day) with
     | true =>
       go_wp2_with fail
       go_ret
       rw [HRW.out,if_neg (by have:=of_decide_eq_true h1;omega)]
       exact ⟨rfl,by exact bel_⟩
     | false =>
       go_wp2_with fail
       go_ret
       rw [HRW.out,if_pos (by have:=of_decide_eq_false h1;omega)]
       exact ⟨rfl,by exact bel_⟩
theorem val_pair {α:Type} {num:α→Int} {ok:α→Bool} {most:Nat} {l:List α} (h:valB num ok most l=true):l.Pairwise fun x y=>num x<num y:=by
 rw [valB,Bool.and_eq_true] at h
 have hadj:∀ j (h1:j+1<l.length),num (l[j]'(by omega))<num l[j+1]:=fun j h1=>by
  have h2:=List.all_eq_true.1 h.2 (j+1) (List.mem_range.2 h1)
  have e1:l[j+1]?=some l[j+1]:=List.getElem?_eq_getElem h1
  have e2:l[j]?=some (l[j]'(by omega)):=List.getElem?_eq_getElem (by omega)
  simp only [valAt,e1,e2,Bool.and_eq_true,decide_eq_true_eq] at h2
  exact h2.2
 rw [List.pairwise_iff_getElem]
 intro i j hi hj hij
 obtain ⟨d,rfl⟩:∃ d,j=i+d+1:=⟨j - i - 1,by omega⟩
 clear hij
 induction d with
 | zero=>exact hadj i hj
 | succ d ih=>exact Int.lt_trans (ih (by omega)) (hadj (i+d+1) (by omega))
theorem val_mk {α:Type} {num:α→Int} {ok:α→Bool} {most:Nat} {l:List α} (h1:l.length≤most) (h2:∀ x∈l,ok x=true) (h3:l.Pairwise fun x y=>num x<num y):valB num ok most l=true:=by
 rw [valB,Bool.and_eq_true,decide_eq_true_eq]
 refine ⟨h1,List.all_eq_true.2 fun k hk=>?_⟩
 have hk:=List.mem_range.1 hk
 have hp:=List.pairwise_iff_getElem.1 h3
 cases k with
 | zero =>
   have e1:l[0]?=some l[0]:=List.getElem?_eq_getElem hk
   simp only [valAt,e1]
   exact h2 _ (List.getElem_mem _)
 | succ j =>
   have e1:l[j+1]?=some l[j+1]:=List.getElem?_eq_getElem hk
   have e2:l[j]?=some (l[j]'(by omega)):=List.getElem?_eq_getElem (by omega)
   simp only [valAt,e1,e2,Bool.and_eq_true,decide_eq_true_eq]
   exact ⟨h2 _ (List.getElem_mem _),hp j (j+1) (by omega) hk (by omega)⟩
structure TldAt (W:World) (A:Option Addr) (n:Nat) (T:List (List Int)) (rs:List Rw):Prop where
 rd:Rd W W.heap.size 1 A n (rs.map Rw.v)
 xs:rs.map Rw.xs=T
 at_is:∀ r∈rs,Is W W.heap.size r.A r.n r.xs
theorem TldAt.ext {W W':World} {A:Option Addr} {n:Nat} {T:List (List Int)} {rs:List Rw} (h:TldAt W A n T rs) (hb:Below W.heap.size W W'):TldAt W' A n T rs :=
 ⟨(Rd.ext h.rd hb lr_).more hb.size,h.xs,fun r hr=>(h.at_is r hr).now hb⟩
theorem TldAt.at_ {W:World} {A:Option Addr} {n k:Nat} {fs:List (Int × Int)} {f:Int × Int} {WF:Int × Int→List Int} {rs:List Rw} (h:TldAt W A n (fs.map WF) rs) (hf:fs[k]?=some f) (hk:k<n) :
 ∃ (b o:Nat) (r:Rw),A=some ⟨b,o,none⟩∧b<W.heap.size∧W.cell? ⟨b,o+k,none⟩=some r.v∧r.xs=WF f∧Is W W.heap.size r.A r.n r.xs:=by
 obtain ⟨b,o,e,hb,hc⟩:=h.rd.2 (by omega)
 have h1:(rs.map Rw.xs)[k]?=some (WF f):=by rw [h.xs,List.getElem?_map,hf];rfl
 rw [List.getElem?_map] at h1
 obtain ⟨r,hr,hx⟩:=Option.map_eq_some_iff.1 h1
 exact ⟨b,o,r,e,hb,hc k r.v (by rw [List.getElem?_map,hr];rfl),hx,h.at_is r (List.mem_of_getElem? hr)⟩
end Go.Proofs.YtmcmbicapdcfmaaGreat
namespace Go.Proofs.YtmcmbicapdcfmaaGreat
open Go.ChangeShapes Go.WideShapes Go.ChangeAt Go.RowKit Go.Deep Go.Joins
section
variable {H:Type} {enc:TypeId × Value→H} {w:World} {base:Nat} {spare:Nat→Bool} {held:Bool} {r:Reach} {b0:Nat} {v:Value} {d:DataW H} {p:List MemPlace}
end
end Go.Proofs.YtmcmbicapdcfmaaGreat
namespace Go.Proofs.YtmcmbicapdcfmaaGreat
open Go.RowKit Go.Maps Go.Shelf
end Go.Proofs.YtmcmbicapdcfmaaGreat
