/- Layer 2 of the texts that LoanWheres takes: Ubrq. -/
import Derived.Test.YtoiompoapikkbaaGreatUbqq
set_option linter.unusedVariables false
set_option linter.unusedSimpArgs false
/- Layer 2, the reference: sound, Sound, Double, Telling. -/
namespace Go.Proofs.YtoiompoapikkbaaGreat
open Go.RowKit Go.Maps
theorem sgN_pos (S:List Sgt) (kn:Int) (k:Nat):∀ i∈sgN S kn k,0≤i:=by
 intro i hi
 rw [sgN] at hi
 obtain ⟨j,-,rfl⟩:=List.mem_map.1 hi
 omega
theorem own_setB {W:World} {base size n C o:Nat} {e:TypeId} {v:Value} {xs:List Value} (h:W.ownsRow base e size v n xs) (hC:C<base) (u:Value):(W.setCell ⟨C,o,none⟩ u).ownsRow base e size v n xs :=
 own_keep h fun b hb=>Below.heap_setCell _ _ _ _ (by have h2:=own_le h hb;simp;omega)
set_option maxRecDepth 10000 in
set_option maxHeartbeats 4000000 in
theorem r_soundD (l:Led) (x:Lsl) (kn:Int) (q:Rcp × Rcp) (w:World) (hl:LedOk l) (hd:LedIn w w.heap.size x l) (ho:firstP (refD l (tellK l kn l.rt.length) kn) l.rc=some q) :
 Calls Tryz.prog 113 #[.agg #[.slice x.pA x.pn x.pc,.slice x.rA x.rn x.rc,.slice x.tA x.tn x.tc,.slice x.sA x.sn x.sc],.int .i64 kn] w (fun e w'=>∃ B Tc,e=.returned (.tuple #[.agg #[.slice x.pA x.pn x.pc,.slice x.rA x.rn x.rc,.slice x.tA x.tn x.tc,.slice x.sA x.sn x.sc,.int .i64 kn,.slice (some ⟨B,0,none⟩) x.tn Tc,.slice none 0 0],.int .i64 25])∧Below w.heap.size w w'):=by
 obtain ⟨pA,pn,pc,rA,rn,rc,tA,tn,tc,sA,sn,sc⟩:=x
 have HD:=Lib.hid hd
 have HLO:=Lib.hid hl
 have HO:=Lib.hid ho
 clear ho
 clear hd hl
 go_enter Tryz.func113,Tryz.ntmps113
 have BZ0:Hid (BoxA ((w.alloc (.cells #[.slice pA pn pc,.slice rA rn rc,.slice tA tn tc,.slice sA sn sc] 27)).alloc (.cells #[.slice none 0 0,.slice none 0 0,.slice none 0 0,.slice none 0 0,.int .i64 0,.slice none 0 0,.slice none 0 0] 127)) (w.heap.size+1) 127 #[.slice none 0 0,.slice none 0 0,.slice none 0 0,.slice none 0 0,.int .i64 0,.slice none 0 0,.slice none 0 0]):=by
  show BoxA _ _ _ _
  have h:=BoxA.new (w.alloc (.cells #[.slice pA pn pc,.slice rA rn rc,.slice tA tn tc,.slice sA sn sc] 27)) 127 #[.slice none 0 0,.slice none 0 0,.slice none 0 0,.slice none 0 0,.int .i64 0,.slice none 0 0,.slice none 0 0]
  simpa using h
 go_wp2_with (first | (go_at_call 105;refine (r_look l ⟨pA,pn,pc,rA,rn,rc,tA,tn,tc,sA,sn,sc⟩ kn _ HLO.out (HD.out.now (by exact bel_))).mono ?_;rintro e w2 ⟨B,Tc,rfl,hb2,hT,hBB⟩;have HB2:Below w.heap.size w w2:=Below.then_ (by exact bel_) hb2;have hs2:=HB2.size;have bZ2:=BZ0.out.ext hb2;have kZ2:=bZ2.cell;have zZ2:=bZ2.lt;have fZ2:=bZ2.frozen;have hBB1:w.heap.size+1+1≤B:=(by have h:=hBB;simp only [World.size_alloc] at h;exact h);have zT:=hT.lt;have HT:=Lib.hid hT;clear hT hb2 hBB) | (go_at_call 106;refine (r_doubles_v l ⟨⟨pA,pn,pc,rA,rn,rc,tA,tn,tc,sA,sn,sc⟩,kn,some ⟨B,0,none⟩,tn,Tc,none,0,0⟩ (tellK l kn l.rt.length) (some q) _ HLO.out rfl (HD.out.now (by exact bel_)) ((HT.out.alloc _).sqT (by rw [tellK_len];exact HD.out.t.len) (by simp;omega)) HO.out).mono ?_;rintro e w3 ⟨A3,n3,c3,rfl,hb3,hr3,hc3⟩;obtain rfl:n3=2:=hr3.len.symm;have HB3:Below w.heap.size w w3:=Below.then_ (by exact bel_) hb3;have hs3:=HB3.size;have bV3:=(BoxA.new w2 127 #[.slice pA pn pc,.slice rA rn rc,.slice tA tn tc,.slice sA sn sc,.int .i64 kn,.slice (some ⟨B,0,none⟩) tn Tc,.slice none 0 0]).ext hb3;have kV3:=bV3.cell;have zV3:=bV3.lt;have bZ3:=(bZ2.alloc _).ext hb3;have kZ3:=bZ3.cell;have zZ3:=bZ3.lt;have fZ3:=bZ3.frozen;have HT3:=Lib.hid ((HT.out.alloc (.cells #[.slice pA pn pc,.slice rA rn rc,.slice tA tn tc,.slice sA sn sc,.int .i64 kn,.slice (some ⟨B,0,none⟩) tn Tc,.slice none 0 0] 127)).ext hb3);have HBZ3:=Lib.hid bZ3;have HBV3:=Lib.hid bV3;have hzz2:w.heap.size+1<w2.heap.size:=zZ2;clear bZ3 bV3 hb3 hr3 hc3 kZ2 zZ2 fZ2))
 have HZ7:=Lib.hid (HBZ3.out.set7 (.slice pA pn pc) (.slice rA rn rc) (.slice tA tn tc) (.slice sA sn sc) (.int .i64 kn) (.slice (some ⟨B,0,none⟩) tn Tc) (.slice none 0 0))
 have HT7:=Lib.hid (HT3.out.other7 (show B≠w.heap.size+1 by omega) (.slice pA pn pc) (.slice rA rn rc) (.slice tA tn tc) (.slice sA sn sc) (.int .i64 kn) (.slice (some ⟨B,0,none⟩) tn Tc) (.slice none 0 0))
 have HB7:Below w.heap.size w (((((((w3.setCell ⟨w.heap.size+1,0,none⟩ (.slice pA pn pc)).setCell ⟨w.heap.size+1,1,none⟩ (.slice rA rn rc)).setCell ⟨w.heap.size+1,2,none⟩ (.slice tA tn tc)).setCell ⟨w.heap.size+1,3,none⟩ (.slice sA sn sc)).setCell ⟨w.heap.size+1,4,none⟩ (.int .i64 kn)).setCell ⟨w.heap.size+1,5,none⟩ (.slice (some ⟨B,0,none⟩) tn Tc)).setCell ⟨w.heap.size+1,6,none⟩ (.slice none 0 0)):=below_set7 HB3 (Nat.le_succ _) _ _ _ _ _ _ _
 obtain ⟨W7,hW7⟩:∃ W7,(((((((w3.setCell ⟨w.heap.size+1,0,none⟩ (.slice pA pn pc)).setCell ⟨w.heap.size+1,1,none⟩ (.slice rA rn rc)).setCell ⟨w.heap.size+1,2,none⟩ (.slice tA tn tc)).setCell ⟨w.heap.size+1,3,none⟩ (.slice sA sn sc)).setCell ⟨w.heap.size+1,4,none⟩ (.int .i64 kn)).setCell ⟨w.heap.size+1,5,none⟩ (.slice (some ⟨B,0,none⟩) tn Tc)).setCell ⟨w.heap.size+1,6,none⟩ (.slice none 0 0))=W7:=⟨_,rfl⟩
 rw [hW7] at HT7 HZ7 HB7 ⊢
 clear hW7 kZ3 zZ3 fZ3
 have kZ:=HZ7.out.cell
 have zZ:=HZ7.out.lt
 refine bodyPost_ret (v:=.tuple #[.agg #[.slice pA pn pc,.slice rA rn rc,.slice tA tn tc,.slice sA sn sc,.int .i64 kn,.slice (some ⟨B,0,none⟩) tn Tc,.slice none 0 0],.int .i64 25]) ?_ rfl ?_
 ·(simp [results,Tryz.f113,go_sem];try go_simp)
 ·first | exact ⟨_,_,rfl,HB7⟩ | exact ⟨⟨_,_,rfl⟩,HB7⟩
set_option maxRecDepth 10000 in
set_option maxHeartbeats 4000000 in
theorem r_soundC (l:Led) (x:Lsl) (kn:Int) (w:World) (hl:LedOk l) (hd:LedIn w w.heap.size x l) (ho:firstP (refD l (tellK l kn l.rt.length) kn) l.rc=none) (hR:(refL l (tellK l kn l.rt.length) kn (cntS l kn) (byL l kn)).2=false) :
 Calls Tryz.prog 113 #[.agg #[.slice x.pA x.pn x.pc,.slice x.rA x.rn x.rc,.slice x.tA x.tn x.tc,.slice x.sA x.sn x.sc],.int .i64 kn] w (fun e w'=>∃ B Tc,e=.returned (.tuple #[.agg #[.slice x.pA x.pn x.pc,.slice x.rA x.rn x.rc,.slice x.tA x.tn x.tc,.slice x.sA x.sn x.sc,.int .i64 kn,.slice (some ⟨B,0,none⟩) x.tn Tc,.slice none 0 0],.int .i64 27])∧Below w.heap.size w w'):=by
 obtain ⟨pA,pn,pc,rA,rn,rc,tA,tn,tc,sA,sn,sc⟩:=x
 have HD:=Lib.hid hd
 have HLO:=Lib.hid hl
 have HO:=Lib.hid ho
 clear ho
 obtain ⟨⟨R1,R2⟩,hRR⟩:∃ R,refL l (tellK l kn l.rt.length) kn (cntS l kn) (byL l kn)=R:=⟨_,rfl⟩
 rw [hRR] at hR
 have hR:R2=false:=hR
 subst hR
 have HRR:=Lib.hid hRR
 clear hRR
 clear hd hl
 go_enter Tryz.func113,Tryz.ntmps113
 have BZ0:Hid (BoxA ((w.alloc (.cells #[.slice pA pn pc,.slice rA rn rc,.slice tA tn tc,.slice sA sn sc] 27)).alloc (.cells #[.slice none 0 0,.slice none 0 0,.slice none 0 0,.slice none 0 0,.int .i64 0,.slice none 0 0,.slice none 0 0] 127)) (w.heap.size+1) 127 #[.slice none 0 0,.slice none 0 0,.slice none 0 0,.slice none 0 0,.int .i64 0,.slice none 0 0,.slice none 0 0]):=by
  show BoxA _ _ _ _
  have h:=BoxA.new (w.alloc (.cells #[.slice pA pn pc,.slice rA rn rc,.slice tA tn tc,.slice sA sn sc] 27)) 127 #[.slice none 0 0,.slice none 0 0,.slice none 0 0,.slice none 0 0,.int .i64 0,.slice none 0 0,.slice none 0 0]
  simpa using h
 go_wp2_with (first | (go_at_call 105;refine (r_look l ⟨pA,pn,pc,rA,rn,rc,tA,tn,tc,sA,sn,sc⟩ kn _ HLO.out (HD.out.now (by exact bel_))).mono ?_;rintro e w2 ⟨B,Tc,rfl,hb2,hT,hBB⟩;have HB2:Below w.heap.size w w2:=Below.then_ (by exact bel_) hb2;have hs2:=HB2.size;have bZ2:=BZ0.out.ext hb2;have kZ2:=bZ2.cell;have zZ2:=bZ2.lt;have fZ2:=bZ2.frozen;have hBB1:w.heap.size+1+1≤B:=(by have h:=hBB;simp only [World.size_alloc] at h;exact h);have zT:=hT.lt;have HT:=Lib.hid hT;clear hT hb2 hBB) | (go_at_call 106;refine (r_doubles_v l ⟨⟨pA,pn,pc,rA,rn,rc,tA,tn,tc,sA,sn,sc⟩,kn,some ⟨B,0,none⟩,tn,Tc,none,0,0⟩ (tellK l kn l.rt.length) none _ HLO.out rfl (HD.out.now (by exact bel_)) ((HT.out.alloc _).sqT (by rw [tellK_len];exact HD.out.t.len) (by simp;omega)) HO.out).mono ?_;rintro e w3 ⟨A3,n3,c3,rfl,hb3,hr3,hc3⟩;obtain rfl:n3=0:=hr3.len.symm;have HB3:Below w.heap.size w w3:=Below.then_ (by exact bel_) hb3;have hs3:=HB3.size;have bV3:=(BoxA.new w2 127 #[.slice pA pn pc,.slice rA rn rc,.slice tA tn tc,.slice sA sn sc,.int .i64 kn,.slice (some ⟨B,0,none⟩) tn Tc,.slice none 0 0]).ext hb3;have kV3:=bV3.cell;have zV3:=bV3.lt;have bZ3:=(bZ2.alloc _).ext hb3;have kZ3:=bZ3.cell;have zZ3:=bZ3.lt;have fZ3:=bZ3.frozen;have HT3:=Lib.hid ((HT.out.alloc (.cells #[.slice pA pn pc,.slice rA rn rc,.slice tA tn tc,.slice sA sn sc,.int .i64 kn,.slice (some ⟨B,0,none⟩) tn Tc,.slice none 0 0] 127)).ext hb3);have HBZ3:=Lib.hid bZ3;have HBV3:=Lib.hid bV3;have hzz2:w.heap.size+1<w2.heap.size:=zZ2;clear bZ3 bV3 hb3 hr3 hc3 kZ2 zZ2 fZ2))
 have HSI:Hid (∀ W:World,Below w3.heap.size w3 W→Calls Tryz.prog 110 #[.agg #[.slice pA pn pc,.slice rA rn rc,.slice tA tn tc,.slice sA sn sc,.int .i64 kn,.slice (some ⟨B,0,none⟩) tn Tc,.slice none 0 0]] W (RetO (sgN l.sg kn l.sg.length) W)):=by
  show ∀ _,_
  exact fun W hW=>r_sights l ⟨⟨pA,pn,pc,rA,rn,rc,tA,tn,tc,sA,sn,sc⟩,kn,some ⟨B,0,none⟩,tn,Tc,none,0,0⟩ W (by have h:=HD.out.s.len;have h2:=HLO.out.sn;show sn≤1000000;dsimp only at h;omega) (HD.out.now (HB3.trans (hW.mono hs3)))
 have HDY:Hid (∀ (W:World) (A:Option Addr) (m c:Nat),Below w3.heap.size w3 W→m≤1000000→Is W W.heap.size A m (sgN l.sg kn l.sg.length)→Calls Tryz.prog 167 #[.agg #[.slice pA pn pc,.slice rA rn rc,.slice tA tn tc,.slice sA sn sc,.int .i64 kn,.slice (some ⟨B,0,none⟩) tn Tc,.slice none 0 0],.slice A m c] W (RetNr (R1,false) tn W)):=by
  show ∀ _,_
  intro W A m c hW hm hI
  have h:=r_days l ⟨⟨pA,pn,pc,rA,rn,rc,tA,tn,tc,sA,sn,sc⟩,kn,some ⟨B,0,none⟩,tn,Tc,none,0,0⟩ (sgN l.sg kn l.sg.length) (cntS l kn) A m c W HLO.out rfl (HD.out.now (HB3.trans (hW.mono hs3))) (((HT3.out.ext hW).sqT (by rw [tellK_len];exact HD.out.t.len) (HT3.out.ext hW).lt)) hm hI (sgN_pos _ _ _) (sgN_cnt l kn)
  dsimp only at h
  rw [HRR.out] at h
  exact h
 have hnl:=sgN_len l.sg kn l.sg.length
 have hn60:l.sg.length≤60:=HLO.out.sn
 go_wp2_with fail
 (refine wp_region_bheld 9 (by kernel_rfl) rfl (fun hS=>?_);simp only [List.reduceReplicate,Array.replicate_succ,Array.replicate_zero])
 (refine tk_ (i:=0) (v:=?_) rfl ?_ hS ?_ (fun _ _ _ h=>h);rotate_left;focus (intro w2 hw2;(try dsimp only at hw2);obtain ⟨hc2,hf2⟩:=bcell hw2;go_simp;first | done | with_reducible rfl);(try simp only [Act.put,pu1,pu2,pu3]))
 (refine tk_ (i:=1) (v:=?_) rfl ?_ hS ?_ (fun _ _ _ h=>h);rotate_left;focus (intro w2 hw2;(try dsimp only at hw2);obtain ⟨hc2,hf2⟩:=bcell hw2;go_simp;first | done | with_reducible rfl);(try simp only [Act.put,pu1,pu2,pu3]))
 refine rd_ [2] ?_
 refine ah1 rfl fun K hK=>?_
 (go_simp;refine (HSI.out _ (by exact bel_)).mono ?_;rintro e w4 ⟨v4,rfl,hb4,ho4⟩;obtain ⟨A4,c4,rfl,hcc4⟩:=own_slice ho4;go_simp)
 have h4:Below w3.heap.size w3 w4:=Below.then_ hS hb4
 have HI4:Hid (Is w4 w4.heap.size A4 (sgN l.sg kn l.sg.length).length (sgN l.sg kn l.sg.length)):=by show Is _ _ _ _ _;exact Rd.of_own ho4
 refine hK.out _ _ h4 (fun hS=>?_)
 clear hK K ho4
 (try simp only [Act.put,pu1,pu2,pu3])
 refine rd_ [3] ?_
 refine ah1 rfl fun K hK=>?_
 (go_simp;refine (HDY.out _ _ _ _ h4 (by omega) HI4.out).mono ?_;rintro e w5 ⟨A5,c5,rfl,hb5,ho5⟩;go_simp)
 have h5:Below w3.heap.size w3 w5:=Below.then_ h4 hb5
 refine hK.out _ _ h5 (fun hS=>?_)
 clear hK K
 (try simp only [Act.put,pu1,pu2,pu3])
 (refine tk_ (i:=4) (v:=?_) rfl ?_ hS ?_ (fun _ _ _ h=>h);rotate_left;focus (intro w2 hw2;(try dsimp only at hw2);obtain ⟨hc2,hf2⟩:=bcell hw2;go_simp;first | done | with_reducible rfl);(try simp only [Act.put,pu1,pu2,pu3]))
 (refine tk_ (i:=5) (v:=?_) rfl ?_ hS ?_ (fun _ _ _ h=>h);rotate_left;focus (intro w2 hw2;(try dsimp only at hw2);obtain ⟨hc2,hf2⟩:=bcell hw2;go_simp;first | done | with_reducible rfl);(try simp only [Act.put,pu1,pu2,pu3]))
 (refine tk_ (i:=6) (v:=?_) rfl ?_ hS ?_ (fun _ _ _ h=>h);rotate_left;focus (intro w2 hw2;(try dsimp only at hw2);obtain ⟨hc2,hf2⟩:=bcell hw2;go_simp;first | done | with_reducible rfl);(try simp only [Act.put,pu1,pu2,pu3]))
 (refine tk_ (i:=7) (v:=?_) rfl ?_ hS ?_ (fun _ _ _ h=>h);rotate_left;focus (intro w2 hw2;(try dsimp only at hw2);obtain ⟨hc2,hf2⟩:=bcell hw2;go_simp;first | done | with_reducible rfl);(try simp only [Act.put,pu1,pu2,pu3]))
 (refine tk_ (i:=8) (v:=?_) rfl ?_ hS ?_ (fun _ _ _ h=>h);rotate_left;focus (intro w2 hw2;(try dsimp only at hw2);obtain ⟨hc2,hf2⟩:=bcell hw2;go_simp;first | done | with_reducible rfl);(try simp only [Act.put,pu1,pu2,pu3]))
 refine wpAnyH_done (by kernel_rfl) ?_ _
 have HO5:=Lib.hid ho5
 have HB5:=HB3.trans (h5.mono hs3)
 have hs5:=HB5.size
 have bV5:=HBV3.out.ext h5
 have bZ5:=HBZ3.out.ext h5
 have kV5:=bV5.cell
 have zV5:=bV5.lt
 have fV5:=bV5.frozen
 have kZ5:=bZ5.cell
 have zZ5:=bZ5.lt
 have fZ5:=bZ5.frozen
 have HBZ5:=Lib.hid bZ5
 have HBV5:=Lib.hid bV5
 have HT5:=Lib.hid (HT3.out.ext h5)
 clear kV3 zV3 kZ3 zZ3 fZ3 hb4 hb5 hS bV5 bZ5 ho5
 go_wp2_with fail
 have HZ7:=Lib.hid (HBZ5.out.set7 (.slice pA pn pc) (.slice rA rn rc) (.slice tA tn tc) (.slice sA sn sc) (.int .i64 kn) (.slice (some ⟨B,0,none⟩) tn Tc) (.slice none 0 0))
 have HT7:=Lib.hid (HT5.out.other7 (show B≠w.heap.size+1 by omega) (.slice pA pn pc) (.slice rA rn rc) (.slice tA tn tc) (.slice sA sn sc) (.int .i64 kn) (.slice (some ⟨B,0,none⟩) tn Tc) (.slice none 0 0))
 have HB7:Below w.heap.size w (((((((w5.setCell ⟨w.heap.size+1,0,none⟩ (.slice pA pn pc)).setCell ⟨w.heap.size+1,1,none⟩ (.slice rA rn rc)).setCell ⟨w.heap.size+1,2,none⟩ (.slice tA tn tc)).setCell ⟨w.heap.size+1,3,none⟩ (.slice sA sn sc)).setCell ⟨w.heap.size+1,4,none⟩ (.int .i64 kn)).setCell ⟨w.heap.size+1,5,none⟩ (.slice (some ⟨B,0,none⟩) tn Tc)).setCell ⟨w.heap.size+1,6,none⟩ (.slice none 0 0)):=below_set7 HB5 (Nat.le_succ _) _ _ _ _ _ _ _
 obtain ⟨W7,hW7⟩:∃ W7,(((((((w5.setCell ⟨w.heap.size+1,0,none⟩ (.slice pA pn pc)).setCell ⟨w.heap.size+1,1,none⟩ (.slice rA rn rc)).setCell ⟨w.heap.size+1,2,none⟩ (.slice tA tn tc)).setCell ⟨w.heap.size+1,3,none⟩ (.slice sA sn sc)).setCell ⟨w.heap.size+1,4,none⟩ (.int .i64 kn)).setCell ⟨w.heap.size+1,5,none⟩ (.slice (some ⟨B,0,none⟩) tn Tc)).setCell ⟨w.heap.size+1,6,none⟩ (.slice none 0 0))=W7:=⟨_,rfl⟩
 rw [hW7] at HT7 HZ7 HB7 ⊢
 clear hW7 kZ5 zZ5 fZ5 kV5 zV5 fV5
 have kZ:=HZ7.out.cell
 have zZ:=HZ7.out.lt
 refine bodyPost_ret (v:=.tuple #[.agg #[.slice pA pn pc,.slice rA rn rc,.slice tA tn tc,.slice sA sn sc,.int .i64 kn,.slice (some ⟨B,0,none⟩) tn Tc,.slice none 0 0],.int .i64 27]) ?_ rfl ?_
 ·(simp [results,Tryz.f113,go_sem];try go_simp)
 ·first | exact ⟨_,_,rfl,HB7⟩ | exact ⟨⟨_,_,rfl⟩,HB7⟩
set_option maxRecDepth 10000 in
set_option maxHeartbeats 4000000 in
theorem r_sound0 (l:Led) (x:Lsl) (kn:Int) (w:World) (hl:LedOk l) (hd:LedIn w w.heap.size x l) (ho:firstP (refD l (tellK l kn l.rt.length) kn) l.rc=none) (hR:(refL l (tellK l kn l.rt.length) kn (cntS l kn) (byL l kn)).2=true) :
 Calls Tryz.prog 113 #[.agg #[.slice x.pA x.pn x.pc,.slice x.rA x.rn x.rc,.slice x.tA x.tn x.tc,.slice x.sA x.sn x.sc],.int .i64 kn] w (fun e w'=>∃ B Tc A5 c5,e=.returned (.tuple #[.agg #[.slice x.pA x.pn x.pc,.slice x.rA x.rn x.rc,.slice x.tA x.tn x.tc,.slice x.sA x.sn x.sc,.int .i64 kn,.slice (some ⟨B,0,none⟩) x.tn Tc,.slice A5 x.tn c5],.int .i64 0])∧Below w.heap.size w w'∧BoxA w' B 4 (boolL (tellK l kn l.rt.length)).toArray∧w.heap.size≤B∧w'.ownsRow w.heap.size 34 2 (.slice A5 x.tn c5) x.tn (folCells (refL l (tellK l kn l.rt.length) kn (cntS l kn) (byL l kn)).1)):=by
 obtain ⟨pA,pn,pc,rA,rn,rc,tA,tn,tc,sA,sn,sc⟩:=x
 have HD:=Lib.hid hd
 have HLO:=Lib.hid hl
 have HO:=Lib.hid ho
 clear ho
 obtain ⟨⟨R1,R2⟩,hRR⟩:∃ R,refL l (tellK l kn l.rt.length) kn (cntS l kn) (byL l kn)=R:=⟨_,rfl⟩
 rw [hRR] at hR
 have hR:R2=true:=hR
 subst hR
 have HRR:=Lib.hid hRR
 clear hRR
 clear hd hl
 go_enter Tryz.func113,Tryz.ntmps113
 have BZ0:Hid (BoxA ((w.alloc (.cells #[.slice pA pn pc,.slice rA rn rc,.slice tA tn tc,.slice sA sn sc] 27)).alloc (.cells #[.slice none 0 0,.slice none 0 0,.slice none 0 0,.slice none 0 0,.int .i64 0,.slice none 0 0,.slice none 0 0] 127)) (w.heap.size+1) 127 #[.slice none 0 0,.slice none 0 0,.slice none 0 0,.slice none 0 0,.int .i64 0,.slice none 0 0,.slice none 0 0]):=by
  show BoxA _ _ _ _
  have h:=BoxA.new (w.alloc (.cells #[.slice pA pn pc,.slice rA rn rc,.slice tA tn tc,.slice sA sn sc] 27)) 127 #[.slice none 0 0,.slice none 0 0,.slice none 0 0,.slice none 0 0,.int .i64 0,.slice none 0 0,.slice none 0 0]
  simpa using h
 go_wp2_with (first | (go_at_call 105;refine (r_look l ⟨pA,pn,pc,rA,rn,rc,tA,tn,tc,sA,sn,sc⟩ kn _ HLO.out (HD.out.now (by exact bel_))).mono ?_;rintro e w2 ⟨B,Tc,rfl,hb2,hT,hBB⟩;have HB2:Below w.heap.size w w2:=Below.then_ (by exact bel_) hb2;have hs2:=HB2.size;have bZ2:=BZ0.out.ext hb2;have kZ2:=bZ2.cell;have zZ2:=bZ2.lt;have fZ2:=bZ2.frozen;have hBB1:w.heap.size+1+1≤B:=(by have h:=hBB;simp only [World.size_alloc] at h;exact h);have zT:=hT.lt;have HT:=Lib.hid hT;clear hT hb2 hBB) | (go_at_call 106;refine (r_doubles_v l ⟨⟨pA,pn,pc,rA,rn,rc,tA,tn,tc,sA,sn,sc⟩,kn,some ⟨B,0,none⟩,tn,Tc,none,0,0⟩ (tellK l kn l.rt.length) none _ HLO.out rfl (HD.out.now (by exact bel_)) ((HT.out.alloc _).sqT (by rw [tellK_len];exact HD.out.t.len) (by simp;omega)) HO.out).mono ?_;rintro e w3 ⟨A3,n3,c3,rfl,hb3,hr3,hc3⟩;obtain rfl:n3=0:=hr3.len.symm;have HB3:Below w.heap.size w w3:=Below.then_ (by exact bel_) hb3;have hs3:=HB3.size;have bV3:=(BoxA.new w2 127 #[.slice pA pn pc,.slice rA rn rc,.slice tA tn tc,.slice sA sn sc,.int .i64 kn,.slice (some ⟨B,0,none⟩) tn Tc,.slice none 0 0]).ext hb3;have kV3:=bV3.cell;have zV3:=bV3.lt;have bZ3:=(bZ2.alloc _).ext hb3;have kZ3:=bZ3.cell;have zZ3:=bZ3.lt;have fZ3:=bZ3.frozen;have HT3:=Lib.hid ((HT.out.alloc (.cells #[.slice pA pn pc,.slice rA rn rc,.slice tA tn tc,.slice sA sn sc,.int .i64 kn,.slice (some ⟨B,0,none⟩) tn Tc,.slice none 0 0] 127)).ext hb3);have HBZ3:=Lib.hid bZ3;have HBV3:=Lib.hid bV3;have hzz2:w.heap.size+1<w2.heap.size:=zZ2;clear bZ3 bV3 hb3 hr3 hc3 kZ2 zZ2 fZ2))
 have HSI:Hid (∀ W:World,Below w3.heap.size w3 W→Calls Tryz.prog 110 #[.agg #[.slice pA pn pc,.slice rA rn rc,.slice tA tn tc,.slice sA sn sc,.int .i64 kn,.slice (some ⟨B,0,none⟩) tn Tc,.slice none 0 0]] W (RetO (sgN l.sg kn l.sg.length) W)):=by
  show ∀ _,_
  exact fun W hW=>r_sights l ⟨⟨pA,pn,pc,rA,rn,rc,tA,tn,tc,sA,sn,sc⟩,kn,some ⟨B,0,none⟩,tn,Tc,none,0,0⟩ W (by have h:=HD.out.s.len;have h2:=HLO.out.sn;show sn≤1000000;dsimp only at h;omega) (HD.out.now (HB3.trans (hW.mono hs3)))
 have HDY:Hid (∀ (W:World) (A:Option Addr) (m c:Nat),Below w3.heap.size w3 W→m≤1000000→Is W W.heap.size A m (sgN l.sg kn l.sg.length)→Calls Tryz.prog 167 #[.agg #[.slice pA pn pc,.slice rA rn rc,.slice tA tn tc,.slice sA sn sc,.int .i64 kn,.slice (some ⟨B,0,none⟩) tn Tc,.slice none 0 0],.slice A m c] W (RetNr (R1,true) tn W)):=by
  show ∀ _,_
  intro W A m c hW hm hI
  have h:=r_days l ⟨⟨pA,pn,pc,rA,rn,rc,tA,tn,tc,sA,sn,sc⟩,kn,some ⟨B,0,none⟩,tn,Tc,none,0,0⟩ (sgN l.sg kn l.sg.length) (cntS l kn) A m c W HLO.out rfl (HD.out.now (HB3.trans (hW.mono hs3))) (((HT3.out.ext hW).sqT (by rw [tellK_len];exact HD.out.t.len) (HT3.out.ext hW).lt)) hm hI (sgN_pos _ _ _) (sgN_cnt l kn)
  dsimp only at h
  rw [HRR.out] at h
  exact h
 have hnl:=sgN_len l.sg kn l.sg.length
 have hn60:l.sg.length≤60:=HLO.out.sn
 go_wp2_with fail
 (refine wp_region_bheld 9 (by kernel_rfl) rfl (fun hS=>?_);simp only [List.reduceReplicate,Array.replicate_succ,Array.replicate_zero])
 (refine tk_ (i:=0) (v:=?_) rfl ?_ hS ?_ (fun _ _ _ h=>h);rotate_left;focus (intro w2 hw2;(try dsimp only at hw2);obtain ⟨hc2,hf2⟩:=bcell hw2;go_simp;first | done | with_reducible rfl);(try simp only [Act.put,pu1,pu2,pu3]))
 (refine tk_ (i:=1) (v:=?_) rfl ?_ hS ?_ (fun _ _ _ h=>h);rotate_left;focus (intro w2 hw2;(try dsimp only at hw2);obtain ⟨hc2,hf2⟩:=bcell hw2;go_simp;first | done | with_reducible rfl);(try simp only [Act.put,pu1,pu2,pu3]))
 refine rd_ [2] ?_
 refine ah1 rfl fun K hK=>?_
 (go_simp;refine (HSI.out _ (by exact bel_)).mono ?_;rintro e w4 ⟨v4,rfl,hb4,ho4⟩;obtain ⟨A4,c4,rfl,hcc4⟩:=own_slice ho4;go_simp)
 have h4:Below w3.heap.size w3 w4:=Below.then_ hS hb4
 have HI4:Hid (Is w4 w4.heap.size A4 (sgN l.sg kn l.sg.length).length (sgN l.sg kn l.sg.length)):=by show Is _ _ _ _ _;exact Rd.of_own ho4
 refine hK.out _ _ h4 (fun hS=>?_)
 clear hK K ho4
 (try simp only [Act.put,pu1,pu2,pu3])
 refine rd_ [3] ?_
 refine ah1 rfl fun K hK=>?_
 (go_simp;refine (HDY.out _ _ _ _ h4 (by omega) HI4.out).mono ?_;rintro e w5 ⟨A5,c5,rfl,hb5,ho5⟩;go_simp)
 have h5:Below w3.heap.size w3 w5:=Below.then_ h4 hb5
 refine hK.out _ _ h5 (fun hS=>?_)
 clear hK K
 (try simp only [Act.put,pu1,pu2,pu3])
 (refine tk_ (i:=4) (v:=?_) rfl ?_ hS ?_ (fun _ _ _ h=>h);rotate_left;focus (intro w2 hw2;(try dsimp only at hw2);obtain ⟨hc2,hf2⟩:=bcell hw2;go_simp;first | done | with_reducible rfl);(try simp only [Act.put,pu1,pu2,pu3]))
 (refine tk_ (i:=5) (v:=?_) rfl ?_ hS ?_ (fun _ _ _ h=>h);rotate_left;focus (intro w2 hw2;(try dsimp only at hw2);obtain ⟨hc2,hf2⟩:=bcell hw2;go_simp;first | done | with_reducible rfl);(try simp only [Act.put,pu1,pu2,pu3]))
 (refine tk_ (i:=6) (v:=?_) rfl ?_ hS ?_ (fun _ _ _ h=>h);rotate_left;focus (intro w2 hw2;(try dsimp only at hw2);obtain ⟨hc2,hf2⟩:=bcell hw2;go_simp;first | done | with_reducible rfl);(try simp only [Act.put,pu1,pu2,pu3]))
 (refine tk_ (i:=7) (v:=?_) rfl ?_ hS ?_ (fun _ _ _ h=>h);rotate_left;focus (intro w2 hw2;(try dsimp only at hw2);obtain ⟨hc2,hf2⟩:=bcell hw2;go_simp;first | done | with_reducible rfl);(try simp only [Act.put,pu1,pu2,pu3]))
 (refine tk_ (i:=8) (v:=?_) rfl ?_ hS ?_ (fun _ _ _ h=>h);rotate_left;focus (intro w2 hw2;(try dsimp only at hw2);obtain ⟨hc2,hf2⟩:=bcell hw2;go_simp;first | done | with_reducible rfl);(try simp only [Act.put,pu1,pu2,pu3]))
 refine wpAnyH_done (by kernel_rfl) ?_ _
 have HO5:=Lib.hid ho5
 have HB5:=HB3.trans (h5.mono hs3)
 have hs5:=HB5.size
 have bV5:=HBV3.out.ext h5
 have bZ5:=HBZ3.out.ext h5
 have kV5:=bV5.cell
 have zV5:=bV5.lt
 have fV5:=bV5.frozen
 have kZ5:=bZ5.cell
 have zZ5:=bZ5.lt
 have fZ5:=bZ5.frozen
 have HBZ5:=Lib.hid bZ5
 have HBV5:=Lib.hid bV5
 have HT5:=Lib.hid (HT3.out.ext h5)
 clear kV3 zV3 kZ3 zZ3 fZ3 hb4 hb5 hS bV5 bZ5 ho5
 have bZ8:=HBZ5.out.other (show w.heap.size+1≠w2.heap.size by omega) (.slice A5 tn c5) (p:=⟨w2.heap.size,6,none⟩)
 have bV8:=HBV5.out.set 6 (.slice A5 tn c5)
 simp only [List.setIfInBounds_toArray,List.set_cons_zero,List.set_cons_succ] at bV8
 have HT8:=Lib.hid (HT5.out.other (show B≠w2.heap.size by omega) (.slice A5 tn c5) (p:=⟨w2.heap.size,6,none⟩))
 have hw24:w2.heap.size<w4.heap.size:=by have h:=HBV3.out.lt;have h2:=h4.size;omega
 have hwz4:w.heap.size+1<w4.heap.size:=by omega
 have HO8:=Lib.hid (own_setB (o:=6) HO5.out hw24 (.slice A5 tn c5))
 have HB8:Below w.heap.size w (w5.setCell ⟨w2.heap.size,6,none⟩ (.slice A5 tn c5)):=HB5.setCell (show w.heap.size≤w2.heap.size by omega) _
 have HBZ8:=Lib.hid bZ8
 have HBV8:=Lib.hid bV8
 clear bZ8 bV8
 go_wp2_with fail
 have HO9:Hid (World.ownsRow ((((((((w5.setCell ⟨w2.heap.size,6,none⟩ (.slice A5 tn c5)).setCell ⟨w.heap.size+1,0,none⟩ (.slice pA pn pc)).setCell ⟨w.heap.size+1,1,none⟩ (.slice rA rn rc)).setCell ⟨w.heap.size+1,2,none⟩ (.slice tA tn tc)).setCell ⟨w.heap.size+1,3,none⟩ (.slice sA sn sc)).setCell ⟨w.heap.size+1,4,none⟩ (.int .i64 kn)).setCell ⟨w.heap.size+1,5,none⟩ (.slice (some ⟨B,0,none⟩) tn Tc)).setCell ⟨w.heap.size+1,6,none⟩ (.slice A5 tn c5)) w4.heap.size 34 2 (.slice A5 tn c5) tn (folCells R1)):=by
  show World.ownsRow _ _ _ _ _ _ _
  exact own_setB (own_setB (own_setB (own_setB (own_setB (own_setB (own_setB HO8.out hwz4 _) hwz4 _) hwz4 _) hwz4 _) hwz4 _) hwz4 _) hwz4 _
 have HZ7:=Lib.hid (HBZ8.out.set7 (.slice pA pn pc) (.slice rA rn rc) (.slice tA tn tc) (.slice sA sn sc) (.int .i64 kn) (.slice (some ⟨B,0,none⟩) tn Tc) (.slice A5 tn c5))
 have HT7:=Lib.hid (HT8.out.other7 (show B≠w.heap.size+1 by omega) (.slice pA pn pc) (.slice rA rn rc) (.slice tA tn tc) (.slice sA sn sc) (.int .i64 kn) (.slice (some ⟨B,0,none⟩) tn Tc) (.slice A5 tn c5))
 have HB7:Below w.heap.size w ((((((((w5.setCell ⟨w2.heap.size,6,none⟩ (.slice A5 tn c5)).setCell ⟨w.heap.size+1,0,none⟩ (.slice pA pn pc)).setCell ⟨w.heap.size+1,1,none⟩ (.slice rA rn rc)).setCell ⟨w.heap.size+1,2,none⟩ (.slice tA tn tc)).setCell ⟨w.heap.size+1,3,none⟩ (.slice sA sn sc)).setCell ⟨w.heap.size+1,4,none⟩ (.int .i64 kn)).setCell ⟨w.heap.size+1,5,none⟩ (.slice (some ⟨B,0,none⟩) tn Tc)).setCell ⟨w.heap.size+1,6,none⟩ (.slice A5 tn c5)):=below_set7 HB8 (Nat.le_succ _) _ _ _ _ _ _ _
 obtain ⟨W7,hW7⟩:∃ W7,((((((((w5.setCell ⟨w2.heap.size,6,none⟩ (.slice A5 tn c5)).setCell ⟨w.heap.size+1,0,none⟩ (.slice pA pn pc)).setCell ⟨w.heap.size+1,1,none⟩ (.slice rA rn rc)).setCell ⟨w.heap.size+1,2,none⟩ (.slice tA tn tc)).setCell ⟨w.heap.size+1,3,none⟩ (.slice sA sn sc)).setCell ⟨w.heap.size+1,4,none⟩ (.int .i64 kn)).setCell ⟨w.heap.size+1,5,none⟩ (.slice (some ⟨B,0,none⟩) tn Tc)).setCell ⟨w.heap.size+1,6,none⟩ (.slice A5 tn c5))=W7:=⟨_,rfl⟩
 rw [hW7] at HT7 HZ7 HB7 HO9 ⊢
 clear hW7 kZ5 zZ5 fZ5 kV5 zV5 fV5
 have kZ:=HZ7.out.cell
 have zZ:=HZ7.out.lt
 refine bodyPost_ret (v:=.tuple #[.agg #[.slice pA pn pc,.slice rA rn rc,.slice tA tn tc,.slice sA sn sc,.int .i64 kn,.slice (some ⟨B,0,none⟩) tn Tc,.slice A5 tn c5],.int .i64 0]) ?_ rfl ?_
 ·(simp [results,Tryz.f113,go_sem];try go_simp)
 ·refine ⟨_,_,_,_,rfl,HB7,HT7.out,by omega,?_⟩
  rw [HRR.out]
  exact own_dn HO9.out (by omega)
end Go.Proofs.YtoiompoapikkbaaGreat
/- Layer 2, the reference: Sound, Double, Telling. -/
namespace Go.Proofs.YtoiompoapikkbaaGreat
open Go.RowKit Go.Maps
theorem r_soundE (l:Led) (x:Lsl) (kn v:Int) (w:World) (hl:ledB l=true) (hd:LedIn w w.heap.size x l) (hv:setE l kn=v) :
 Calls Tryz.prog 113 #[.agg #[.slice x.pA x.pn x.pc,.slice x.rA x.rn x.rc,.slice x.tA x.tn x.tc,.slice x.sA x.sn x.sc],.int .i64 kn] w (fun e w'=>∃ B Tc AD nD cD,e=.returned (.tuple #[.agg #[.slice x.pA x.pn x.pc,.slice x.rA x.rn x.rc,.slice x.tA x.tn x.tc,.slice x.sA x.sn x.sc,.int .i64 kn,.slice (some ⟨B,0,none⟩) x.tn Tc,.slice AD nD cD],.int .i64 v])∧Below w.heap.size w w'):=by
 subst hv
 rw [set_ref hl]
 cases ho:firstP (refD l (tellK l kn l.rt.length) kn) l.rc with
 | some q =>
   refine (r_soundD l x kn q w (led_ok hl) hd ho).mono ?_
   rintro e w' ⟨B,Tc,rfl,hb⟩
   exact ⟨_,_,_,_,_,rfl,hb⟩
 | none =>
   cases hR:(refL l (tellK l kn l.rt.length) kn (cntS l kn) (byL l kn)).2 with
   | false =>
     refine (r_soundC l x kn w (led_ok hl) hd ho hR).mono ?_
     rintro e w' ⟨B,Tc,rfl,hb⟩
     exact ⟨_,_,_,_,_,rfl,hb⟩
   | true =>
     refine (r_sound0 l x kn w (led_ok hl) hd ho hR).mono ?_
     rintro e w' ⟨B,Tc,A5,c5,rfl,hb,-,-,-⟩
     exact ⟨_,_,_,_,_,rfl,hb⟩
end Go.Proofs.YtoiompoapikkbaaGreat
/- contradict, find, first, checkDays. -/
namespace Go.Proofs.YtoiompoapikkbaaGreat
open Go.RowKit
end Go.Proofs.YtoiompoapikkbaaGreat
/- even. -/
namespace Go.Proofs.YtoiompoapikkbaaGreat
open Go.RowKit
end Go.Proofs.YtoiompoapikkbaaGreat
/- keys.Dates. -/
namespace Go.Proofs.YtoiompoapikkbaaGreat
open Go.RowKit
end Go.Proofs.YtoiompoapikkbaaGreat
/- Holders, Hands, Holds, Has, InOffice. -/
namespace Go.Proofs.YtoiompoapikkbaaGreat
open Go.RowKit Go.Shelf Go.Maps
end Go.Proofs.YtoiompoapikkbaaGreat
/- InOffice, Holds, Has. -/
namespace Go.Proofs.YtoiompoapikkbaaGreat
open Go.RowKit Go.Shelf Go.Maps
end Go.Proofs.YtoiompoapikkbaaGreat
/- Layer 2: Telling. -/
namespace Go.Proofs.YtoiompoapikkbaaGreat
open Go.RowKit Go.Maps
end Go.Proofs.YtoiompoapikkbaaGreat
