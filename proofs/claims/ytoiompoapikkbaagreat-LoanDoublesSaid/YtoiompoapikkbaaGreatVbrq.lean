/- Layer 2 of the texts that LoanDoubles takes: Vbrq. -/
import Derived.Test.YtoiompoapikkbaaGreatVbpq
import Derived.Test.YtoiompoapikkbaaGreatLqp
import Derived.Test.YtoiompoapikkbaaGreatVbqq
set_option linter.unusedVariables false
set_option linter.unusedSimpArgs false
/- Layer 2, the reference: which sights count. -/
namespace Go.Proofs.YtoiompoapikkbaaGreat
open Go.RowKit Go.Maps
def sgN (S:List Sgt) (kn:Int) (k:Nat):List Int:=((List.range k).filter fun i=>match S[i]? with | some s=>countsB s.kn s.un kn | none=>false).map fun (i:Nat)=>(i:Int)
theorem sgN_succ {S:List Sgt} {kn:Int} {k:Nat} {s:Sgt} (h:S[k]?=some s):sgN S kn (k+1)=sgN S kn k ++ (if countsB s.kn s.un kn then [(k:Int)] else []):=by
 rw [sgN,List.range_succ,List.filter_append,List.map_append]
 simp only [List.filter_cons,h,List.filter_nil]
 split <;> simp_all [sgN]
theorem sgN_len (S:List Sgt) (kn:Int) (k:Nat):(sgN S kn k).length≤k:=by
 rw [sgN,List.length_map]
 have h:=List.length_filter_le (fun i=>match S[i]? with | some s=>countsB s.kn s.un kn | none=>false) (List.range k)
 simpa using h
set_option maxRecDepth 10000 in
set_option maxHeartbeats 4000000 in
theorem r_sights (l:Led) (v:Vw) (w:World) (hn:v.x.sn≤1000000) (hd:LedIn w w.heap.size v.x l) :
 Calls Tryz.prog 110 #[vwV v] w (RetO (sgN l.sg v.kn l.sg.length) w):=by
 obtain ⟨⟨pA,pn,pc,rA,rn,rc,tA,tn,tc,sA,sn,sc⟩,kn,TA,Tn,Tc,DA,Dn,Dc⟩:=v
 show Calls _ _ #[.agg #[.slice pA pn pc,.slice rA rn rc,.slice tA tn tc,.slice sA sn sc,.int .i64 kn,.slice TA Tn Tc,.slice DA Dn Dc]] _ (RetO (sgN l.sg kn l.sg.length) w)
 obtain ⟨i0,hi,hz0,hz1,hz2⟩:=info_parts infoI2
 have hsn:sn≤1000000:=hn
 have HS:Hid (Sgs w w.heap.size sA sn l.sg):=by show Sq _ _ _ _ _ _ _;exact hd.s
 have hls:l.sg.length=sn:=hd.s.len
 rw [hls]
 clear hd hn hls
 go_enter Tryz.func110,Tryz.ntmps110
 go_wp2
 go_loopw [3,4] (fun u i wr=>∃ k:Nat,k≤sn∧i=.int .i64 k∧wr.ownsRow (w.heap.size+1) 3 1 u (sgN l.sg kn k).length (intL (sgN l.sg kn k))∧Below (w.heap.size+1) (w.alloc (.cells #[.slice pA pn pc,.slice rA rn rc,.slice tA tn tc,.slice sA sn sc,.int .i64 kn,.slice TA Tn Tc,.slice DA Dn Dc] 127)) wr) (fun _ i _=>sn - (intOf i).toNat)
 case atStart=>exact ⟨0,by omega,rfl,World.ownsRow_nil _ _ _ _,by exact bel_⟩
 case round =>
  obtain ⟨k,hk,rfl,hown,hB⟩:=hrel
  have hs0:w.heap.size+1≤wr.heap.size:=by have h:=hB.size;simp at h;omega
  have bV:BoxA wr w.heap.size 127 #[.slice pA pn pc,.slice rA rn rc,.slice tA tn tc,.slice sA sn sc,.int .i64 kn,.slice TA Tn Tc,.slice DA Dn Dc]:=BoxA.ext (BoxA.new w _ _) (by simpa using hB)
  have kV:=bV.cell
  have zV:=bV.lt
  have hBw:Below w.heap.size w wr:=Below.trans (by exact bel_) (hB.mono (Nat.le_succ _))
  by_cases hlt:k<sn
  ·obtain ⟨b,o,e,rfl,hb,he,hq⟩:=(Sq.ext HS.out abS hBw (Nat.le_refl _)).at_ hlt
   obtain ⟨a0,a1,a2,a3,a4,a5,a6⟩:=hq
   have hbr:b<wr.heap.size:=by omega
   have HX:=Lib.hid (sgN_succ (kn:=kn) he)
   have hlk:=sgN_len l.sg kn k
   have HO:=Lib.hid hown
   have HB:=Lib.hid hB
   clear he hB bV
   cases hc:countsB e.kn e.un kn with
   | false =>
     have HC:=Lib.hid hc
     have HE:Hid (sgN l.sg kn (k+1)=sgN l.sg kn k):=by show _=_;rw [HX.out,hc];simp
     clear hc hown
     go_wp2_with fail
     (refine rg_ ?_;(repeat (go_big_quiet_step ((first | (go_at_call 164;exact Calls.grow_same (r_counts2_v _ _ _ false _ HC.out))))));refine qn_ fun w1 hb1 hc1 hf1=>?_)
     go_wp2_with fail
     go_roundw
     case rel=>exact ⟨k+1,by omega,by go_num,by rw [HE.out];exact own_ext HO.out (hb1.mono (by omega)),HB.out.trans (hb1.mono (by omega))⟩
     case measure=>exact ms_
   | true =>
     have HC:=Lib.hid hc
     have HE:Hid (sgN l.sg kn (k+1)=sgN l.sg kn k ++ [(k:Int)]):=by show _=_;rw [HX.out,hc];simp
     clear hc hown
     go_wp2_with fail
     (refine rg_ ?_;(repeat (go_big_quiet_step ((first | (go_at_call 164;exact Calls.grow_same (r_counts2_v _ _ _ true _ HC.out))))));refine qn_ fun w1 hb1 hc1 hf1=>?_)
     have hown:=own_ext HO.out hb1
     have HO1:=Lib.hid hown
     go_wp2_with (at_builtin;refine wpList_append_own _ rfl (.tmp 30) (.tmp 32) 30 rfl (w.heap.size+1) 3 i0 _ 1 8 Tryz.underlying30 hi hz0 hz1 hz2 rfl (by decide) _ _ _ rfl (hown.alloc _) ⟨w1.heap.size,0,none⟩ 1 1 [.int .i64 k] rfl rfl ?c1 ?c2 ?c3 ?c4 ?c5 ?_;rotate_left 5;intro v' w2 hown2 hgrow2 _)
     case c1=>intro j u hj;match j,hj with | 0,hj=>simp at hj;subst hj;simp [Addr.add]
     case c2=>simp [Value.oneCell']
     case c3=>unfold maxLen;omega
     case c4=>omega
     case c5=>have hz:=hb1.size;simp;omega
     go_roundw
     case rel =>
      have hq:=HB.out.trans (hb1.mono (by omega))
      have hz:=hb1.size
      exact ⟨k+1,by omega,by go_num,by rw [HE.out];simpa [intL] using hown2,OwnB.below (by exact bel_) HO1.out (by simp;omega) hgrow2⟩
     case measure=>exact ms_
  ·obtain rfl:k=sn:=by omega
   go_wp2
   go_ret
   exact ⟨_,rfl,hBw,own_dn hown (Nat.le_succ _)⟩
end Go.Proofs.YtoiompoapikkbaaGreat
/- Layer 2: the sights that count, by their indices, plain. -/
namespace Go.Proofs.YtoiompoapikkbaaGreat
open Go.RowKit Go.Maps
theorem sgN_nth {S:List Sgt} {kn:Int}:∀ {k:Nat},k≤S.length→(sgN S kn k).map (fun i=>S[i.toNat]?)=(((S.take k).filter fun s=>countsB s.kn s.un kn).map some)
 | 0,_=>by simp [sgN]
 | k+1,hk=>by
   obtain ⟨s,hs⟩:∃ s,S[k]?=some s:=⟨S[k],List.getElem?_eq_getElem (by omega)⟩
   rw [sgN_succ hs,List.map_append,sgN_nth (by omega),take_snoc_some hs,List.filter_append,List.map_append]
   congr 1
   cases hc:countsB s.kn s.un kn <;> simp [hc,hs]
theorem sgN_cnt (l:Led) (kn:Int):(sgN l.sg kn l.sg.length).map (fun i=>l.sg[i.toNat]?)=(cntS l kn).map some:=by
 rw [sgN_nth (Nat.le_refl _),List.take_of_length_le (Nat.le_refl _)]
 rfl
end Go.Proofs.YtoiompoapikkbaaGreat
/- Layer 2, the reference: sound, Sound, Double, Telling. -/
namespace Go.Proofs.YtoiompoapikkbaaGreat
open Go.RowKit Go.Maps
theorem sgN_pos (S:List Sgt) (kn:Int) (k:Nat):∀ i∈sgN S kn k,0≤i:=by
 intro i hi
 rw [sgN] at hi
 obtain ⟨j,-,rfl⟩:=List.mem_map.1 hi
 omega
theorem own_setB {W:World} {base size n C o:Nat} {e:TypeId} {v:Value} {xs:List Value} (h:W.ownsRow base e size v n xs) (hC:C<base) (u:Value):(W.setCell ⟨C,o,none⟩ u).ownsRow base e size v n xs :=
 own_keep h fun b hb=>Below.heap_setCell _ _ _ _ (by have h2:=own_le h hb;simp;omega)
set_option maxRecDepth 10000 in
set_option maxHeartbeats 4000000 in
theorem r_soundD (l:Led) (x:Lsl) (kn:Int) (q:Rcp × Rcp) (w:World) (hl:LedOk l) (hd:LedIn w w.heap.size x l) (ho:firstP (refD l (tellK l kn l.rt.length) kn) l.rc=some q) :
 Calls Tryz.prog 113 #[.agg #[.slice x.pA x.pn x.pc,.slice x.rA x.rn x.rc,.slice x.tA x.tn x.tc,.slice x.sA x.sn x.sc],.int .i64 kn] w (fun e w'=>∃ B Tc,e=.returned (.tuple #[.agg #[.slice x.pA x.pn x.pc,.slice x.rA x.rn x.rc,.slice x.tA x.tn x.tc,.slice x.sA x.sn x.sc,.int .i64 kn,.slice (some ⟨B,0,none⟩) x.tn Tc,.slice none 0 0],.int .i64 25])∧Below w.heap.size w w'):=by
 obtain ⟨pA,pn,pc,rA,rn,rc,tA,tn,tc,sA,sn,sc⟩:=x
 have HD:=Lib.hid hd
 have HLO:=Lib.hid hl
 have HO:=Lib.hid ho
 clear ho
 clear hd hl
 go_enter Tryz.func113,Tryz.ntmps113
 have BZ0:Hid (BoxA ((w.alloc (.cells #[.slice pA pn pc,.slice rA rn rc,.slice tA tn tc,.slice sA sn sc] 27)).alloc (.cells #[.slice none 0 0,.slice none 0 0,.slice none 0 0,.slice none 0 0,.int .i64 0,.slice none 0 0,.slice none 0 0] 127)) (w.heap.size+1) 127 #[.slice none 0 0,.slice none 0 0,.slice none 0 0,.slice none 0 0,.int .i64 0,.slice none 0 0,.slice none 0 0]):=by
  show BoxA _ _ _ _
  have h:=BoxA.new (w.alloc (.cells #[.slice pA pn pc,.slice rA rn rc,.slice tA tn tc,.slice sA sn sc] 27)) 127 #[.slice none 0 0,.slice none 0 0,.slice none 0 0,.slice none 0 0,.int .i64 0,.slice none 0 0,.slice none 0 0]
  simpa using h
 go_wp2_with (first | (go_at_call 105;refine (r_look l ⟨pA,pn,pc,rA,rn,rc,tA,tn,tc,sA,sn,sc⟩ kn _ HLO.out (HD.out.now (by exact bel_))).mono ?_;rintro e w2 ⟨B,Tc,rfl,hb2,hT,hBB⟩;have HB2:Below w.heap.size w w2:=Below.then_ (by exact bel_) hb2;have hs2:=HB2.size;have bZ2:=BZ0.out.ext hb2;have kZ2:=bZ2.cell;have zZ2:=bZ2.lt;have fZ2:=bZ2.frozen;have hBB1:w.heap.size+1+1≤B:=(by have h:=hBB;simp only [World.size_alloc] at h;exact h);have zT:=hT.lt;have HT:=Lib.hid hT;clear hT hb2 hBB) | (go_at_call 106;refine (r_doubles_v l ⟨⟨pA,pn,pc,rA,rn,rc,tA,tn,tc,sA,sn,sc⟩,kn,some ⟨B,0,none⟩,tn,Tc,none,0,0⟩ (tellK l kn l.rt.length) (some q) _ HLO.out rfl (HD.out.now (by exact bel_)) ((HT.out.alloc _).sqT (by rw [tellK_len];exact HD.out.t.len) (by simp;omega)) HO.out).mono ?_;rintro e w3 ⟨A3,n3,c3,rfl,hb3,hr3,hc3⟩;obtain rfl:n3=2:=hr3.len.symm;have HB3:Below w.heap.size w w3:=Below.then_ (by exact bel_) hb3;have hs3:=HB3.size;have bV3:=(BoxA.new w2 127 #[.slice pA pn pc,.slice rA rn rc,.slice tA tn tc,.slice sA sn sc,.int .i64 kn,.slice (some ⟨B,0,none⟩) tn Tc,.slice none 0 0]).ext hb3;have kV3:=bV3.cell;have zV3:=bV3.lt;have bZ3:=(bZ2.alloc _).ext hb3;have kZ3:=bZ3.cell;have zZ3:=bZ3.lt;have fZ3:=bZ3.frozen;have HT3:=Lib.hid ((HT.out.alloc (.cells #[.slice pA pn pc,.slice rA rn rc,.slice tA tn tc,.slice sA sn sc,.int .i64 kn,.slice (some ⟨B,0,none⟩) tn Tc,.slice none 0 0] 127)).ext hb3);have HBZ3:=Lib.hid bZ3;have HBV3:=Lib.hid bV3;have hzz2:w.heap.size+1<w2.heap.size:=zZ2;clear bZ3 bV3 hb3 hr3 hc3 kZ2 zZ2 fZ2))
 have HZ7:=Lib.hid (HBZ3.out.set7 (.slice pA pn pc) (.slice rA rn rc) (.slice tA tn tc) (.slice sA sn sc) (.int .i64 kn) (.slice (some ⟨B,0,none⟩) tn Tc) (.slice none 0 0))
 have HT7:=Lib.hid (HT3.out.other7 (show B≠w.heap.size+1 by omega) (.slice pA pn pc) (.slice rA rn rc) (.slice tA tn tc) (.slice sA sn sc) (.int .i64 kn) (.slice (some ⟨B,0,none⟩) tn Tc) (.slice none 0 0))
 have HB7:Below w.heap.size w (((((((w3.setCell ⟨w.heap.size+1,0,none⟩ (.slice pA pn pc)).setCell ⟨w.heap.size+1,1,none⟩ (.slice rA rn rc)).setCell ⟨w.heap.size+1,2,none⟩ (.slice tA tn tc)).setCell ⟨w.heap.size+1,3,none⟩ (.slice sA sn sc)).setCell ⟨w.heap.size+1,4,none⟩ (.int .i64 kn)).setCell ⟨w.heap.size+1,5,none⟩ (.slice (some ⟨B,0,none⟩) tn Tc)).setCell ⟨w.heap.size+1,6,none⟩ (.slice none 0 0)):=below_set7 HB3 (Nat.le_succ _) _ _ _ _ _ _ _
 obtain ⟨W7,hW7⟩:∃ W7,(((((((w3.setCell ⟨w.heap.size+1,0,none⟩ (.slice pA pn pc)).setCell ⟨w.heap.size+1,1,none⟩ (.slice rA rn rc)).setCell ⟨w.heap.size+1,2,none⟩ (.slice tA tn tc)).setCell ⟨w.heap.size+1,3,none⟩ (.slice sA sn sc)).setCell ⟨w.heap.size+1,4,none⟩ (.int .i64 kn)).setCell ⟨w.heap.size+1,5,none⟩ (.slice (some ⟨B,0,none⟩) tn Tc)).setCell ⟨w.heap.size+1,6,none⟩ (.slice none 0 0))=W7:=⟨_,rfl⟩
 rw [hW7] at HT7 HZ7 HB7 ⊢
 clear hW7 kZ3 zZ3 fZ3
 have kZ:=HZ7.out.cell
 have zZ:=HZ7.out.lt
 refine bodyPost_ret (v:=.tuple #[.agg #[.slice pA pn pc,.slice rA rn rc,.slice tA tn tc,.slice sA sn sc,.int .i64 kn,.slice (some ⟨B,0,none⟩) tn Tc,.slice none 0 0],.int .i64 25]) ?_ rfl ?_
 ·(simp [results,Tryz.f113,go_sem];try go_simp)
 ·first | exact ⟨_,_,rfl,HB7⟩ | exact ⟨⟨_,_,rfl⟩,HB7⟩
set_option maxRecDepth 10000 in
set_option maxHeartbeats 4000000 in
theorem r_soundC (l:Led) (x:Lsl) (kn:Int) (w:World) (hl:LedOk l) (hd:LedIn w w.heap.size x l) (ho:firstP (refD l (tellK l kn l.rt.length) kn) l.rc=none) (hR:(refL l (tellK l kn l.rt.length) kn (cntS l kn) (byL l kn)).2=false) :
 Calls Tryz.prog 113 #[.agg #[.slice x.pA x.pn x.pc,.slice x.rA x.rn x.rc,.slice x.tA x.tn x.tc,.slice x.sA x.sn x.sc],.int .i64 kn] w (fun e w'=>∃ B Tc,e=.returned (.tuple #[.agg #[.slice x.pA x.pn x.pc,.slice x.rA x.rn x.rc,.slice x.tA x.tn x.tc,.slice x.sA x.sn x.sc,.int .i64 kn,.slice (some ⟨B,0,none⟩) x.tn Tc,.slice none 0 0],.int .i64 27])∧Below w.heap.size w w'):=by
 obtain ⟨pA,pn,pc,rA,rn,rc,tA,tn,tc,sA,sn,sc⟩:=x
 have HD:=Lib.hid hd
 have HLO:=Lib.hid hl
 have HO:=Lib.hid ho
 clear ho
 obtain ⟨⟨R1,R2⟩,hRR⟩:∃ R,refL l (tellK l kn l.rt.length) kn (cntS l kn) (byL l kn)=R:=⟨_,rfl⟩
 rw [hRR] at hR
 have hR:R2=false:=hR
 subst hR
 have HRR:=Lib.hid hRR
 clear hRR
 clear hd hl
 go_enter Tryz.func113,Tryz.ntmps113
 have BZ0:Hid (BoxA ((w.alloc (.cells #[.slice pA pn pc,.slice rA rn rc,.slice tA tn tc,.slice sA sn sc] 27)).alloc (.cells #[.slice none 0 0,.slice none 0 0,.slice none 0 0,.slice none 0 0,.int .i64 0,.slice none 0 0,.slice none 0 0] 127)) (w.heap.size+1) 127 #[.slice none 0 0,.slice none 0 0,.slice none 0 0,.slice none 0 0,.int .i64 0,.slice none 0 0,.slice none 0 0]):=by
  show BoxA _ _ _ _
  have h:=BoxA.new (w.alloc (.cells #[.slice pA pn pc,.slice rA rn rc,.slice tA tn tc,.slice sA sn sc] 27)) 127 #[.slice none 0 0,.slice none 0 0,.slice none 0 0,.slice none 0 0,.int .i64 0,.slice none 0 0,.slice none 0 0]
  simpa using h
 go_wp2_with (first | (go_at_call 105;refine (r_look l ⟨pA,pn,pc,rA,rn,rc,tA,tn,tc,sA,sn,sc⟩ kn _ HLO.out (HD.out.now (by exact bel_))).mono ?_;rintro e w2 ⟨B,Tc,rfl,hb2,hT,hBB⟩;have HB2:Below w.heap.size w w2:=Below.then_ (by exact bel_) hb2;have hs2:=HB2.size;have bZ2:=BZ0.out.ext hb2;have kZ2:=bZ2.cell;have zZ2:=bZ2.lt;have fZ2:=bZ2.frozen;have hBB1:w.heap.size+1+1≤B:=(by have h:=hBB;simp only [World.size_alloc] at h;exact h);have zT:=hT.lt;have HT:=Lib.hid hT;clear hT hb2 hBB) | (go_at_call 106;refine (r_doubles_v l ⟨⟨pA,pn,pc,rA,rn,rc,tA,tn,tc,sA,sn,sc⟩,kn,some ⟨B,0,none⟩,tn,Tc,none,0,0⟩ (tellK l kn l.rt.length) none _ HLO.out rfl (HD.out.now (by exact bel_)) ((HT.out.alloc _).sqT (by rw [tellK_len];exact HD.out.t.len) (by simp;omega)) HO.out).mono ?_;rintro e w3 ⟨A3,n3,c3,rfl,hb3,hr3,hc3⟩;obtain rfl:n3=0:=hr3.len.symm;have HB3:Below w.heap.size w w3:=Below.then_ (by exact bel_) hb3;have hs3:=HB3.size;have bV3:=(BoxA.new w2 127 #[.slice pA pn pc,.slice rA rn rc,.slice tA tn tc,.slice sA sn sc,.int .i64 kn,.slice (some ⟨B,0,none⟩) tn Tc,.slice none 0 0]).ext hb3;have kV3:=bV3.cell;have zV3:=bV3.lt;have bZ3:=(bZ2.alloc _).ext hb3;have kZ3:=bZ3.cell;have zZ3:=bZ3.lt;have fZ3:=bZ3.frozen;have HT3:=Lib.hid ((HT.out.alloc (.cells #[.slice pA pn pc,.slice rA rn rc,.slice tA tn tc,.slice sA sn sc,.int .i64 kn,.slice (some ⟨B,0,none⟩) tn Tc,.slice none 0 0] 127)).ext hb3);have HBZ3:=Lib.hid bZ3;have HBV3:=Lib.hid bV3;have hzz2:w.heap.size+1<w2.heap.size:=zZ2;clear bZ3 bV3 hb3 hr3 hc3 kZ2 zZ2 fZ2))
 have HSI:Hid (∀ W:World,Below w3.heap.size w3 W→Calls Tryz.prog 110 #[.agg #[.slice pA pn pc,.slice rA rn rc,.slice tA tn tc,.slice sA sn sc,.int .i64 kn,.slice (some ⟨B,0,none⟩) tn Tc,.slice none 0 0]] W (RetO (sgN l.sg kn l.sg.length) W)):=by
  show ∀ _,_
  exact fun W hW=>r_sights l ⟨⟨pA,pn,pc,rA,rn,rc,tA,tn,tc,sA,sn,sc⟩,kn,some ⟨B,0,none⟩,tn,Tc,none,0,0⟩ W (by have h:=HD.out.s.len;have h2:=HLO.out.sn;show sn≤1000000;dsimp only at h;omega) (HD.out.now (HB3.trans (hW.mono hs3)))
 have HDY:Hid (∀ (W:World) (A:Option Addr) (m c:Nat),Below w3.heap.size w3 W→m≤1000000→Is W W.heap.size A m (sgN l.sg kn l.sg.length)→Calls Tryz.prog 167 #[.agg #[.slice pA pn pc,.slice rA rn rc,.slice tA tn tc,.slice sA sn sc,.int .i64 kn,.slice (some ⟨B,0,none⟩) tn Tc,.slice none 0 0],.slice A m c] W (RetNr (R1,false) tn W)):=by
  show ∀ _,_
  intro W A m c hW hm hI
  have h:=r_days l ⟨⟨pA,pn,pc,rA,rn,rc,tA,tn,tc,sA,sn,sc⟩,kn,some ⟨B,0,none⟩,tn,Tc,none,0,0⟩ (sgN l.sg kn l.sg.length) (cntS l kn) A m c W HLO.out rfl (HD.out.now (HB3.trans (hW.mono hs3))) (((HT3.out.ext hW).sqT (by rw [tellK_len];exact HD.out.t.len) (HT3.out.ext hW).lt)) hm hI (sgN_pos _ _ _) (sgN_cnt l kn)
  dsimp only at h
  rw [HRR.out] at h
  exact h
 have hnl:=sgN_len l.sg kn l.sg.length
 have hn60:l.sg.length≤60:=HLO.out.sn
 go_wp2_with fail
 (refine wp_region_bheld 9 (by kernel_rfl) rfl (fun hS=>?_);simp only [List.reduceReplicate,Array.replicate_succ,Array.replicate_zero])
 (refine tk_ (i:=0) (v:=?_) rfl ?_ hS ?_ (fun _ _ _ h=>h);rotate_left;focus (intro w2 hw2;(try dsimp only at hw2);obtain ⟨hc2,hf2⟩:=bcell hw2;go_simp;first | done | with_reducible rfl);(try simp only [Act.put,pu1,pu2,pu3]))
 (refine tk_ (i:=1) (v:=?_) rfl ?_ hS ?_ (fun _ _ _ h=>h);rotate_left;focus (intro w2 hw2;(try dsimp only at hw2);obtain ⟨hc2,hf2⟩:=bcell hw2;go_simp;first | done | with_reducible rfl);(try simp only [Act.put,pu1,pu2,pu3]))
 refine rd_ [2] ?_
 refine ah1 rfl fun K hK=>?_
 (go_simp;refine (HSI.out _ (by exact bel_)).mono ?_;rintro e w4 ⟨v4,rfl,hb4,ho4⟩;obtain ⟨A4,c4,rfl,hcc4⟩:=own_slice ho4;go_simp)
 have h4:Below w3.heap.size w3 w4:=Below.then_ hS hb4
 have HI4:Hid (Is w4 w4.heap.size A4 (sgN l.sg kn l.sg.length).length (sgN l.sg kn l.sg.length)):=by show Is _ _ _ _ _;exact Rd.of_own ho4
 refine hK.out _ _ h4 (fun hS=>?_)
 clear hK K ho4
 (try simp only [Act.put,pu1,pu2,pu3])
 refine rd_ [3] ?_
 refine ah1 rfl fun K hK=>?_
 (go_simp;refine (HDY.out _ _ _ _ h4 (by omega) HI4.out).mono ?_;rintro e w5 ⟨A5,c5,rfl,hb5,ho5⟩;go_simp)
 have h5:Below w3.heap.size w3 w5:=Below.then_ h4 hb5
 refine hK.out _ _ h5 (fun hS=>?_)
 clear hK K
 (try simp only [Act.put,pu1,pu2,pu3])
 (refine tk_ (i:=4) (v:=?_) rfl ?_ hS ?_ (fun _ _ _ h=>h);rotate_left;focus (intro w2 hw2;(try dsimp only at hw2);obtain ⟨hc2,hf2⟩:=bcell hw2;go_simp;first | done | with_reducible rfl);(try simp only [Act.put,pu1,pu2,pu3]))
 (refine tk_ (i:=5) (v:=?_) rfl ?_ hS ?_ (fun _ _ _ h=>h);rotate_left;focus (intro w2 hw2;(try dsimp only at hw2);obtain ⟨hc2,hf2⟩:=bcell hw2;go_simp;first | done | with_reducible rfl);(try simp only [Act.put,pu1,pu2,pu3]))
 (refine tk_ (i:=6) (v:=?_) rfl ?_ hS ?_ (fun _ _ _ h=>h);rotate_left;focus (intro w2 hw2;(try dsimp only at hw2);obtain ⟨hc2,hf2⟩:=bcell hw2;go_simp;first | done | with_reducible rfl);(try simp only [Act.put,pu1,pu2,pu3]))
 (refine tk_ (i:=7) (v:=?_) rfl ?_ hS ?_ (fun _ _ _ h=>h);rotate_left;focus (intro w2 hw2;(try dsimp only at hw2);obtain ⟨hc2,hf2⟩:=bcell hw2;go_simp;first | done | with_reducible rfl);(try simp only [Act.put,pu1,pu2,pu3]))
 (refine tk_ (i:=8) (v:=?_) rfl ?_ hS ?_ (fun _ _ _ h=>h);rotate_left;focus (intro w2 hw2;(try dsimp only at hw2);obtain ⟨hc2,hf2⟩:=bcell hw2;go_simp;first | done | with_reducible rfl);(try simp only [Act.put,pu1,pu2,pu3]))
 refine wpAnyH_done (by kernel_rfl) ?_ _
 have HO5:=Lib.hid ho5
 have HB5:=HB3.trans (h5.mono hs3)
 have hs5:=HB5.size
 have bV5:=HBV3.out.ext h5
 have bZ5:=HBZ3.out.ext h5
 have kV5:=bV5.cell
 have zV5:=bV5.lt
 have fV5:=bV5.frozen
 have kZ5:=bZ5.cell
 have zZ5:=bZ5.lt
 have fZ5:=bZ5.frozen
 have HBZ5:=Lib.hid bZ5
 have HBV5:=Lib.hid bV5
 have HT5:=Lib.hid (HT3.out.ext h5)
 clear kV3 zV3 kZ3 zZ3 fZ3 hb4 hb5 hS bV5 bZ5 ho5
 go_wp2_with fail
 have HZ7:=Lib.hid (HBZ5.out.set7 (.slice pA pn pc) (.slice rA rn rc) (.slice tA tn tc) (.slice sA sn sc) (.int .i64 kn) (.slice (some ⟨B,0,none⟩) tn Tc) (.slice none 0 0))
 have HT7:=Lib.hid (HT5.out.other7 (show B≠w.heap.size+1 by omega) (.slice pA pn pc) (.slice rA rn rc) (.slice tA tn tc) (.slice sA sn sc) (.int .i64 kn) (.slice (some ⟨B,0,none⟩) tn Tc) (.slice none 0 0))
 have HB7:Below w.heap.size w (((((((w5.setCell ⟨w.heap.size+1,0,none⟩ (.slice pA pn pc)).setCell ⟨w.heap.size+1,1,none⟩ (.slice rA rn rc)).setCell ⟨w.heap.size+1,2,none⟩ (.slice tA tn tc)).setCell ⟨w.heap.size+1,3,none⟩ (.slice sA sn sc)).setCell ⟨w.heap.size+1,4,none⟩ (.int .i64 kn)).setCell ⟨w.heap.size+1,5,none⟩ (.slice (some ⟨B,0,none⟩) tn Tc)).setCell ⟨w.heap.size+1,6,none⟩ (.slice none 0 0)):=below_set7 HB5 (Nat.le_succ _) _ _ _ _ _ _ _
 obtain ⟨W7,hW7⟩:∃ W7,(((((((w5.setCell ⟨w.heap.size+1,0,none⟩ (.slice pA pn pc)).setCell ⟨w.heap.size+1,1,none⟩ (.slice rA rn rc)).setCell ⟨w.heap.size+1,2,none⟩ (.slice tA tn tc)).setCell ⟨w.heap.size+1,3,none⟩ (.slice sA sn sc)).setCell ⟨w.heap.size+1,4,none⟩ (.int .i64 kn)).setCell ⟨w.heap.size+1,5,none⟩ (.slice (some ⟨B,0,none⟩) tn Tc)).setCell ⟨w.heap.size+1,6,none⟩ (.slice none 0 0))=W7:=⟨_,rfl⟩
 rw [hW7] at HT7 HZ7 HB7 ⊢
 clear hW7 kZ5 zZ5 fZ5 kV5 zV5 fV5
 have kZ:=HZ7.out.cell
 have zZ:=HZ7.out.lt
 refine bodyPost_ret (v:=.tuple #[.agg #[.slice pA pn pc,.slice rA rn rc,.slice tA tn tc,.slice sA sn sc,.int .i64 kn,.slice (some ⟨B,0,none⟩) tn Tc,.slice none 0 0],.int .i64 27]) ?_ rfl ?_
 ·(simp [results,Tryz.f113,go_sem];try go_simp)
 ·first | exact ⟨_,_,rfl,HB7⟩ | exact ⟨⟨_,_,rfl⟩,HB7⟩
set_option maxRecDepth 10000 in
set_option maxHeartbeats 4000000 in
theorem r_sound0 (l:Led) (x:Lsl) (kn:Int) (w:World) (hl:LedOk l) (hd:LedIn w w.heap.size x l) (ho:firstP (refD l (tellK l kn l.rt.length) kn) l.rc=none) (hR:(refL l (tellK l kn l.rt.length) kn (cntS l kn) (byL l kn)).2=true) :
 Calls Tryz.prog 113 #[.agg #[.slice x.pA x.pn x.pc,.slice x.rA x.rn x.rc,.slice x.tA x.tn x.tc,.slice x.sA x.sn x.sc],.int .i64 kn] w (fun e w'=>∃ B Tc A5 c5,e=.returned (.tuple #[.agg #[.slice x.pA x.pn x.pc,.slice x.rA x.rn x.rc,.slice x.tA x.tn x.tc,.slice x.sA x.sn x.sc,.int .i64 kn,.slice (some ⟨B,0,none⟩) x.tn Tc,.slice A5 x.tn c5],.int .i64 0])∧Below w.heap.size w w'∧BoxA w' B 4 (boolL (tellK l kn l.rt.length)).toArray∧w.heap.size≤B∧w'.ownsRow w.heap.size 34 2 (.slice A5 x.tn c5) x.tn (folCells (refL l (tellK l kn l.rt.length) kn (cntS l kn) (byL l kn)).1)):=by
 obtain ⟨pA,pn,pc,rA,rn,rc,tA,tn,tc,sA,sn,sc⟩:=x
 have HD:=Lib.hid hd
 have HLO:=Lib.hid hl
 have HO:=Lib.hid ho
 clear ho
 obtain ⟨⟨R1,R2⟩,hRR⟩:∃ R,refL l (tellK l kn l.rt.length) kn (cntS l kn) (byL l kn)=R:=⟨_,rfl⟩
 rw [hRR] at hR
 have hR:R2=true:=hR
 subst hR
 have HRR:=Lib.hid hRR
 clear hRR
 clear hd hl
 go_enter Tryz.func113,Tryz.ntmps113
 have BZ0:Hid (BoxA ((w.alloc (.cells #[.slice pA pn pc,.slice rA rn rc,.slice tA tn tc,.slice sA sn sc] 27)).alloc (.cells #[.slice none 0 0,.slice none 0 0,.slice none 0 0,.slice none 0 0,.int .i64 0,.slice none 0 0,.slice none 0 0] 127)) (w.heap.size+1) 127 #[.slice none 0 0,.slice none 0 0,.slice none 0 0,.slice none 0 0,.int .i64 0,.slice none 0 0,.slice none 0 0]):=by
  show BoxA _ _ _ _
  have h:=BoxA.new (w.alloc (.cells #[.slice pA pn pc,.slice rA rn rc,.slice tA tn tc,.slice sA sn sc] 27)) 127 #[.slice none 0 0,.slice none 0 0,.slice none 0 0,.slice none 0 0,.int .i64 0,.slice none 0 0,.slice none 0 0]
  simpa using h
 go_wp2_with (first | (go_at_call 105;refine (r_look l ⟨pA,pn,pc,rA,rn,rc,tA,tn,tc,sA,sn,sc⟩ kn _ HLO.out (HD.out.now (by exact bel_))).mono ?_;rintro e w2 ⟨B,Tc,rfl,hb2,hT,hBB⟩;have HB2:Below w.heap.size w w2:=Below.then_ (by exact bel_) hb2;have hs2:=HB2.size;have bZ2:=BZ0.out.ext hb2;have kZ2:=bZ2.cell;have zZ2:=bZ2.lt;have fZ2:=bZ2.frozen;have hBB1:w.heap.size+1+1≤B:=(by have h:=hBB;simp only [World.size_alloc] at h;exact h);have zT:=hT.lt;have HT:=Lib.hid hT;clear hT hb2 hBB) | (go_at_call 106;refine (r_doubles_v l ⟨⟨pA,pn,pc,rA,rn,rc,tA,tn,tc,sA,sn,sc⟩,kn,some ⟨B,0,none⟩,tn,Tc,none,0,0⟩ (tellK l kn l.rt.length) none _ HLO.out rfl (HD.out.now (by exact bel_)) ((HT.out.alloc _).sqT (by rw [tellK_len];exact HD.out.t.len) (by simp;omega)) HO.out).mono ?_;rintro e w3 ⟨A3,n3,c3,rfl,hb3,hr3,hc3⟩;obtain rfl:n3=0:=hr3.len.symm;have HB3:Below w.heap.size w w3:=Below.then_ (by exact bel_) hb3;have hs3:=HB3.size;have bV3:=(BoxA.new w2 127 #[.slice pA pn pc,.slice rA rn rc,.slice tA tn tc,.slice sA sn sc,.int .i64 kn,.slice (some ⟨B,0,none⟩) tn Tc,.slice none 0 0]).ext hb3;have kV3:=bV3.cell;have zV3:=bV3.lt;have bZ3:=(bZ2.alloc _).ext hb3;have kZ3:=bZ3.cell;have zZ3:=bZ3.lt;have fZ3:=bZ3.frozen;have HT3:=Lib.hid ((HT.out.alloc (.cells #[.slice pA pn pc,.slice rA rn rc,.slice tA tn tc,.slice sA sn sc,.int .i64 kn,.slice (some ⟨B,0,none⟩) tn Tc,.slice none 0 0] 127)).ext hb3);have HBZ3:=Lib.hid bZ3;have HBV3:=Lib.hid bV3;have hzz2:w.heap.size+1<w2.heap.size:=zZ2;clear bZ3 bV3 hb3 hr3 hc3 kZ2 zZ2 fZ2))
 have HSI:Hid (∀ W:World,Below w3.heap.size w3 W→Calls Tryz.prog 110 #[.agg #[.slice pA pn pc,.slice rA rn rc,.slice tA tn tc,.slice sA sn sc,.int .i64 kn,.slice (some ⟨B,0,none⟩) tn Tc,.slice none 0 0]] W (RetO (sgN l.sg kn l.sg.length) W)):=by
  show ∀ _,_
  exact fun W hW=>r_sights l ⟨⟨pA,pn,pc,rA,rn,rc,tA,tn,tc,sA,sn,sc⟩,kn,some ⟨B,0,none⟩,tn,Tc,none,0,0⟩ W (by have h:=HD.out.s.len;have h2:=HLO.out.sn;show sn≤1000000;dsimp only at h;omega) (HD.out.now (HB3.trans (hW.mono hs3)))
 have HDY:Hid (∀ (W:World) (A:Option Addr) (m c:Nat),Below w3.heap.size w3 W→m≤1000000→Is W W.heap.size A m (sgN l.sg kn l.sg.length)→Calls Tryz.prog 167 #[.agg #[.slice pA pn pc,.slice rA rn rc,.slice tA tn tc,.slice sA sn sc,.int .i64 kn,.slice (some ⟨B,0,none⟩) tn Tc,.slice none 0 0],.slice A m c] W (RetNr (R1,true) tn W)):=by
  show ∀ _,_
  intro W A m c hW hm hI
  have h:=r_days l ⟨⟨pA,pn,pc,rA,rn,rc,tA,tn,tc,sA,sn,sc⟩,kn,some ⟨B,0,none⟩,tn,Tc,none,0,0⟩ (sgN l.sg kn l.sg.length) (cntS l kn) A m c W HLO.out rfl (HD.out.now (HB3.trans (hW.mono hs3))) (((HT3.out.ext hW).sqT (by rw [tellK_len];exact HD.out.t.len) (HT3.out.ext hW).lt)) hm hI (sgN_pos _ _ _) (sgN_cnt l kn)
  dsimp only at h
  rw [HRR.out] at h
  exact h
 have hnl:=sgN_len l.sg kn l.sg.length
 have hn60:l.sg.length≤60:=HLO.out.sn
 go_wp2_with fail
 (refine wp_region_bheld 9 (by kernel_rfl) rfl (fun hS=>?_);simp only [List.reduceReplicate,Array.replicate_succ,Array.replicate_zero])
 (refine tk_ (i:=0) (v:=?_) rfl ?_ hS ?_ (fun _ _ _ h=>h);rotate_left;focus (intro w2 hw2;(try dsimp only at hw2);obtain ⟨hc2,hf2⟩:=bcell hw2;go_simp;first | done | with_reducible rfl);(try simp only [Act.put,pu1,pu2,pu3]))
 (refine tk_ (i:=1) (v:=?_) rfl ?_ hS ?_ (fun _ _ _ h=>h);rotate_left;focus (intro w2 hw2;(try dsimp only at hw2);obtain ⟨hc2,hf2⟩:=bcell hw2;go_simp;first | done | with_reducible rfl);(try simp only [Act.put,pu1,pu2,pu3]))
 refine rd_ [2] ?_
 refine ah1 rfl fun K hK=>?_
 (go_simp;refine (HSI.out _ (by exact bel_)).mono ?_;rintro e w4 ⟨v4,rfl,hb4,ho4⟩;obtain ⟨A4,c4,rfl,hcc4⟩:=own_slice ho4;go_simp)
 have h4:Below w3.heap.size w3 w4:=Below.then_ hS hb4
 have HI4:Hid (Is w4 w4.heap.size A4 (sgN l.sg kn l.sg.length).length (sgN l.sg kn l.sg.length)):=by show Is _ _ _ _ _;exact Rd.of_own ho4
 refine hK.out _ _ h4 (fun hS=>?_)
 clear hK K ho4
 (try simp only [Act.put,pu1,pu2,pu3])
 refine rd_ [3] ?_
 refine ah1 rfl fun K hK=>?_
 (go_simp;refine (HDY.out _ _ _ _ h4 (by omega) HI4.out).mono ?_;rintro e w5 ⟨A5,c5,rfl,hb5,ho5⟩;go_simp)
 have h5:Below w3.heap.size w3 w5:=Below.then_ h4 hb5
 refine hK.out _ _ h5 (fun hS=>?_)
 clear hK K
 (try simp only [Act.put,pu1,pu2,pu3])
 (refine tk_ (i:=4) (v:=?_) rfl ?_ hS ?_ (fun _ _ _ h=>h);rotate_left;focus (intro w2 hw2;(try dsimp only at hw2);obtain ⟨hc2,hf2⟩:=bcell hw2;go_simp;first | done | with_reducible rfl);(try simp only [Act.put,pu1,pu2,pu3]))
 (refine tk_ (i:=5) (v:=?_) rfl ?_ hS ?_ (fun _ _ _ h=>h);rotate_left;focus (intro w2 hw2;(try dsimp only at hw2);obtain ⟨hc2,hf2⟩:=bcell hw2;go_simp;first | done | with_reducible rfl);(try simp only [Act.put,pu1,pu2,pu3]))
 (refine tk_ (i:=6) (v:=?_) rfl ?_ hS ?_ (fun _ _ _ h=>h);rotate_left;focus (intro w2 hw2;(try dsimp only at hw2);obtain ⟨hc2,hf2⟩:=bcell hw2;go_simp;first | done | with_reducible rfl);(try simp only [Act.put,pu1,pu2,pu3]))
 (refine tk_ (i:=7) (v:=?_) rfl ?_ hS ?_ (fun _ _ _ h=>h);rotate_left;focus (intro w2 hw2;(try dsimp only at hw2);obtain ⟨hc2,hf2⟩:=bcell hw2;go_simp;first | done | with_reducible rfl);(try simp only [Act.put,pu1,pu2,pu3]))
 (refine tk_ (i:=8) (v:=?_) rfl ?_ hS ?_ (fun _ _ _ h=>h);rotate_left;focus (intro w2 hw2;(try dsimp only at hw2);obtain ⟨hc2,hf2⟩:=bcell hw2;go_simp;first | done | with_reducible rfl);(try simp only [Act.put,pu1,pu2,pu3]))
 refine wpAnyH_done (by kernel_rfl) ?_ _
 have HO5:=Lib.hid ho5
 have HB5:=HB3.trans (h5.mono hs3)
 have hs5:=HB5.size
 have bV5:=HBV3.out.ext h5
 have bZ5:=HBZ3.out.ext h5
 have kV5:=bV5.cell
 have zV5:=bV5.lt
 have fV5:=bV5.frozen
 have kZ5:=bZ5.cell
 have zZ5:=bZ5.lt
 have fZ5:=bZ5.frozen
 have HBZ5:=Lib.hid bZ5
 have HBV5:=Lib.hid bV5
 have HT5:=Lib.hid (HT3.out.ext h5)
 clear kV3 zV3 kZ3 zZ3 fZ3 hb4 hb5 hS bV5 bZ5 ho5
 have bZ8:=HBZ5.out.other (show w.heap.size+1≠w2.heap.size by omega) (.slice A5 tn c5) (p:=⟨w2.heap.size,6,none⟩)
 have bV8:=HBV5.out.set 6 (.slice A5 tn c5)
 simp only [List.setIfInBounds_toArray,List.set_cons_zero,List.set_cons_succ] at bV8
 have HT8:=Lib.hid (HT5.out.other (show B≠w2.heap.size by omega) (.slice A5 tn c5) (p:=⟨w2.heap.size,6,none⟩))
 have hw24:w2.heap.size<w4.heap.size:=by have h:=HBV3.out.lt;have h2:=h4.size;omega
 have hwz4:w.heap.size+1<w4.heap.size:=by omega
 have HO8:=Lib.hid (own_setB (o:=6) HO5.out hw24 (.slice A5 tn c5))
 have HB8:Below w.heap.size w (w5.setCell ⟨w2.heap.size,6,none⟩ (.slice A5 tn c5)):=HB5.setCell (show w.heap.size≤w2.heap.size by omega) _
 have HBZ8:=Lib.hid bZ8
 have HBV8:=Lib.hid bV8
 clear bZ8 bV8
 go_wp2_with fail
 have HO9:Hid (World.ownsRow ((((((((w5.setCell ⟨w2.heap.size,6,none⟩ (.slice A5 tn c5)).setCell ⟨w.heap.size+1,0,none⟩ (.slice pA pn pc)).setCell ⟨w.heap.size+1,1,none⟩ (.slice rA rn rc)).setCell ⟨w.heap.size+1,2,none⟩ (.slice tA tn tc)).setCell ⟨w.heap.size+1,3,none⟩ (.slice sA sn sc)).setCell ⟨w.heap.size+1,4,none⟩ (.int .i64 kn)).setCell ⟨w.heap.size+1,5,none⟩ (.slice (some ⟨B,0,none⟩) tn Tc)).setCell ⟨w.heap.size+1,6,none⟩ (.slice A5 tn c5)) w4.heap.size 34 2 (.slice A5 tn c5) tn (folCells R1)):=by
  show World.ownsRow _ _ _ _ _ _ _
  exact own_setB (own_setB (own_setB (own_setB (own_setB (own_setB (own_setB HO8.out hwz4 _) hwz4 _) hwz4 _) hwz4 _) hwz4 _) hwz4 _) hwz4 _
 have HZ7:=Lib.hid (HBZ8.out.set7 (.slice pA pn pc) (.slice rA rn rc) (.slice tA tn tc) (.slice sA sn sc) (.int .i64 kn) (.slice (some ⟨B,0,none⟩) tn Tc) (.slice A5 tn c5))
 have HT7:=Lib.hid (HT8.out.other7 (show B≠w.heap.size+1 by omega) (.slice pA pn pc) (.slice rA rn rc) (.slice tA tn tc) (.slice sA sn sc) (.int .i64 kn) (.slice (some ⟨B,0,none⟩) tn Tc) (.slice A5 tn c5))
 have HB7:Below w.heap.size w ((((((((w5.setCell ⟨w2.heap.size,6,none⟩ (.slice A5 tn c5)).setCell ⟨w.heap.size+1,0,none⟩ (.slice pA pn pc)).setCell ⟨w.heap.size+1,1,none⟩ (.slice rA rn rc)).setCell ⟨w.heap.size+1,2,none⟩ (.slice tA tn tc)).setCell ⟨w.heap.size+1,3,none⟩ (.slice sA sn sc)).setCell ⟨w.heap.size+1,4,none⟩ (.int .i64 kn)).setCell ⟨w.heap.size+1,5,none⟩ (.slice (some ⟨B,0,none⟩) tn Tc)).setCell ⟨w.heap.size+1,6,none⟩ (.slice A5 tn c5)):=below_set7 HB8 (Nat.le_succ _) _ _ _ _ _ _ _
 obtain ⟨W7,hW7⟩:∃ W7,((((((((w5.setCell ⟨w2.heap.size,6,none⟩ (.slice A5 tn c5)).setCell ⟨w.heap.size+1,0,none⟩ (.slice pA pn pc)).setCell ⟨w.heap.size+1,1,none⟩ (.slice rA rn rc)).setCell ⟨w.heap.size+1,2,none⟩ (.slice tA tn tc)).setCell ⟨w.heap.size+1,3,none⟩ (.slice sA sn sc)).setCell ⟨w.heap.size+1,4,none⟩ (.int .i64 kn)).setCell ⟨w.heap.size+1,5,none⟩ (.slice (some ⟨B,0,none⟩) tn Tc)).setCell ⟨w.heap.size+1,6,none⟩ (.slice A5 tn c5))=W7:=⟨_,rfl⟩
 rw [hW7] at HT7 HZ7 HB7 HO9 ⊢
 clear hW7 kZ5 zZ5 fZ5 kV5 zV5 fV5
 have kZ:=HZ7.out.cell
 have zZ:=HZ7.out.lt
 refine bodyPost_ret (v:=.tuple #[.agg #[.slice pA pn pc,.slice rA rn rc,.slice tA tn tc,.slice sA sn sc,.int .i64 kn,.slice (some ⟨B,0,none⟩) tn Tc,.slice A5 tn c5],.int .i64 0]) ?_ rfl ?_
 ·(simp [results,Tryz.f113,go_sem];try go_simp)
 ·refine ⟨_,_,_,_,rfl,HB7,HT7.out,by omega,?_⟩
  rw [HRR.out]
  exact own_dn HO9.out (by omega)
end Go.Proofs.YtoiompoapikkbaaGreat
/- Layer 2: slices.Grow at a nil slice of sights, slices.Concat of two slices of sights. -/
namespace Go.Proofs.YtoiompoapikkbaaGreat
open Go.RowKit Go.Shelf Go.Proofs
theorem zeroCellsS (cs:Array Value) (n:Nat):(Builtin.zeroCells cs n).size=n*cs.size:=by
 unfold Builtin.zeroCells
 simp [Nat.mul_comm]
theorem below_al_drew (w:World) (o:Obj):Below w.heap.size w (w.drew.alloc o):=(Below.refl w.heap.size w).drew.alloc (Nat.le_refl _) _
theorem p_GrowNilS (n:Nat) (w:World) (hn:n≤1000) :
 Calls Tryz.prog 170 #[.slice none 0 0,.int .i64 n] w fun e w'=>∃ v,e=.returned v∧w'.ownsRow w.heap.size 38 7 v 0 []∧Below w.heap.size w w':=by
 obtain ⟨i0,hi,hz0,hz1,hz2⟩:=info_parts infoSight
 rcases Nat.eq_zero_or_pos n with rfl | hpos
 ·refine (Any8.slices_Grow_room Tryz.growS none 0 0 0 w (by omega) (by omega) (by omega) (by omega)).mono ?_
  rintro e w' ⟨rfl,rfl⟩
  exact ⟨_,rfl,World.ownsRow_nil _ _ _ _,Below.refl _ _⟩
 ·refine (Any8.slices_Grow_grow Tryz.growS i0 _ hi hz0 (by rw [hz1];omega) none 0 0 n [] w (by omega) (by omega) (by rw [hz2];omega) (by omega) (by simp) (fun _=>rfl) (fun a h=>by cases h)).mono ?_
  rintro e w' ⟨rfl,rfl⟩
  have hg:=grownCap_ge w (0+n) 0 38
  have hm:=grownCap_le_maxLen w (0+n) 0 38 (by unfold maxLen;omega)
  refine ⟨_,rfl,⟨rfl,.inr ⟨w.heap.size,_,_,rfl,Nat.le_refl _,World.alloc_heap_new w.drew _,Nat.zero_le _,hm,?_,by simp⟩⟩,below_al_drew _ _⟩
  have hz:(Value.agg #[.int .i64 0,.int .i64 0,.int .i64 0,.int .i64 0,.int .i64 0,.int .i64 0,.int .i64 0]).cells.size=7:=rfl
  change _=grownCap w (0+n) 0 38*7
  simp only [Array.size_append,zeroCellsS,hz,List.size_toArray,List.length_nil]
  change 0+n≤grownCap w (0+n) 0 38 at hg
  change 0+(0+n - 0)*7+(grownCap w (0+n) 0 38 - (0+n))*7=grownCap w (0+n) 0 38*7
  generalize grownCap w (0+n) 0 38=G at hg ⊢
  omega
theorem sg_news {w:World} {B n p q:Nat} {xs:List Sgt} (h:Rd w B 7 (some ⟨p,q,none⟩) n (xs.flatMap sgC)):∀ j u,(xs.flatMap sgC)[j]?=some u→w.cell? ((⟨p,q,none⟩:Addr).add j)=some u:=by
 intro j u hj
 have hl:=h.1
 rcases Nat.eq_zero_or_pos n with rfl | hpos
 ·rw [List.getElem?_eq_none (by omega)] at hj
  cases hj
 ·obtain ⟨b,o,e,_,h2⟩:=h.2 hpos
  cases e
  rw [Addr.add_lit]
  exact h2 j u hj
theorem sg_ones (xs:List Sgt):∀ u∈xs.flatMap sgC,u.oneCell'=true:=by
 intro u hu
 obtain ⟨d,-,h⟩:=List.mem_flatMap.1 hu
 simp only [List.mem_cons,List.not_mem_nil,or_false] at h
 rcases h with rfl | rfl | rfl | rfl | rfl | rfl | rfl <;> rfl
theorem sg_flen (xs:List Sgt):(xs.flatMap sgC).length=xs.length*7:=flat_len sgC 7 (fun _=>rfl) xs
set_option maxHeartbeats 2000000 in
theorem p_ConcatS (xs ys:List Sgt) (b p q s t n m c d:Nat) (w:World) (hn:n≤100) (hm:m≤100) (hx:Sgs w w.heap.size (some ⟨p,q,none⟩) n xs) (hy:Sgs w w.heap.size (some ⟨s,t,none⟩) m ys)
 (f0:w.cell? ⟨b,0,none⟩=some (.slice (some ⟨p,q,none⟩) n c)) (f1:w.cell? ⟨b,1,none⟩=some (.slice (some ⟨s,t,none⟩) m d)) (hb:b<w.heap.size) :
 Calls Tryz.prog 119 #[.slice (some ⟨b,0,none⟩) 2 2] w (fun e w'=>∃ A c,e=.returned (.slice A (n+m) c)∧Below w.heap.size w w'∧Sgs w' w'.heap.size A (n+m) (xs ++ ys)):=by
 obtain ⟨i0,hi,hz0,hz1,hz2⟩:=info_parts infoSight
 have HX:=Lib.hid (rd_sg hx)
 have HY:=Lib.hid (rd_sg hy)
 have HLX:=Lib.hid hx.len
 have HLY:=Lib.hid hy.len
 clear hx hy
 go_enter Tryz.func119,Tryz.ntmps119
 go_wp2
 go_loop [3,11] (fun z i=>∃ k:Nat,k≤2∧i=.int .i64 k∧z=.int .i64 ((if k=0 then 0 else if k=1 then n else n+m:Nat):Int)) (fun _ i=>2 - (intOf i).toNat)
 case atStart=>exact ⟨0,by omega,rfl,rfl⟩
 case round =>
  obtain ⟨k,hk,rfl,rfl⟩:=hrel
  have hcs:k=0∨k=1∨k=2:=by omega
  rcases hcs with rfl | rfl | rfl
  ·simp only [if_true]
   have hlt:decide ((n:Int)<0)=false:=by simp
   go_wp2
   go_round
   case rel=>exact ⟨1,by omega,by go_num,by simp⟩
   case measure=>simp [intOf]
  ·simp only [show ¬ (1=0) from by omega,if_false,if_true]
   have hlt:decide ((n:Int)+(m:Int)<0)=false:=by simp;omega
   go_wp2
   go_round
   case rel=>exact ⟨2,by omega,by go_num,by simp⟩
   case measure=>simp [intOf]
  ·simp only [show ¬ (2=0) from by omega,show ¬ (2=1) from by omega,if_false]
   go_wp2_with fail
   refine (p_GrowNilS (n+m) _ (by omega)).mono ?_
   rintro e w1 ⟨v,rfl,hown,hb1⟩
   have HO:=Lib.hid hown
   obtain ⟨A0,c0,rfl,hcc⟩:=own_slice hown
   clear hown
   go_wp2
   go_loopw [6,27] (fun v i wr=>∃ k:Nat,k≤2∧i=.int .i64 k∧wr.ownsRow w.heap.size 38 7 v (if k=0 then 0 else if k=1 then n else n+m:Nat) (if k=0 then [] else if k=1 then xs.flatMap sgC else xs.flatMap sgC ++ ys.flatMap sgC)∧Below w.heap.size w wr) (fun _ i _=>2 - (intOf i).toNat)
   case atStart=>exact ⟨0,by omega,rfl,HO.out,hb1⟩
   case round =>
    obtain ⟨k,hk,rfl,hown,hB⟩:=hrel
    have hs:=hB.size
    have g0:=(hB.cell (p:=⟨b,0,none⟩) hb).trans f0
    have g1:=(hB.cell (p:=⟨b,1,none⟩) hb).trans f1
    have HB:=Lib.hid hB
    have HXc:=Lib.hid (Rd.ext HX.out hB (Nat.le_refl _))
    have HYc:=Lib.hid (Rd.ext HY.out hB (Nat.le_refl _))
    clear hB f0 f1
    have hcs:k=0∨k=1∨k=2:=by omega
    rcases hcs with rfl | rfl | rfl
    ·simp only [if_true] at hown
     have HO2:=Lib.hid hown
     go_wp2_with (at_builtin;refine wpList_append_own _ rfl (.tmp 31) (.tmp 32) 25 rfl w.heap.size 38 i0 _ 7 56 Tryz.underlying25 hi hz0 hz1 hz2 rfl (by decide) _ _ _ rfl hown ⟨p,q,none⟩ n c (xs.flatMap sgC) rfl (by rw [sg_flen,HLX.out]) (sg_news HXc.out) (sg_ones _) ?c3 ?c4 ?c5 ?_;rotate_left 3;intro v' w2 hown2 hgrow2 _)
     case c3=>unfold maxLen;omega
     case c4=>omega
     case c5=>omega
     go_roundw
     case rel=>exact ⟨1,by omega,by go_num,by simpa using hown2,HB.out.grown hgrow2 hs fun b e=>own_le HO2.out e⟩
     case measure=>simp [intOf]
    ·simp only [show ¬ (1=0) from by omega,if_false,if_true] at hown
     have HO2:=Lib.hid hown
     go_wp2_with (at_builtin;refine wpList_append_own _ rfl (.tmp 31) (.tmp 32) 25 rfl w.heap.size 38 i0 _ 7 56 Tryz.underlying25 hi hz0 hz1 hz2 rfl (by decide) _ _ _ rfl hown ⟨s,t,none⟩ m d (ys.flatMap sgC) rfl (by rw [sg_flen,HLY.out]) (sg_news HYc.out) (sg_ones _) ?c3 ?c4 ?c5 ?_;rotate_left 3;intro v' w2 hown2 hgrow2 _)
     case c3=>unfold maxLen;omega
     case c4=>omega
     case c5=>omega
     go_roundw
     case rel=>exact ⟨2,by omega,by go_num,by simpa using hown2,HB.out.grown hgrow2 hs fun b e=>own_le HO2.out e⟩
     case measure=>simp [intOf]
    ·simp only [show ¬ (2=0) from by omega,show ¬ (2=1) from by omega,if_false] at hown
     obtain ⟨A1,c1,hv,hcc⟩:=own_slice hown
     subst hv
     go_wp2
     go_ret
     have hl:(xs ++ ys).length=n+m:=by rw [List.length_append,HLX.out,HLY.out]
     refine ⟨A1,c1,rfl,HB.out,sq_sg ?_ hl⟩
     have hr:=Rd.of_own hown
     rw [← List.flatMap_append] at hr
     exact hr
end Go.Proofs.YtoiompoapikkbaaGreat
/- Layer 2: the sights of some sources, plain. -/
namespace Go.Proofs.YtoiompoapikkbaaGreat
open Go.RowKit Go.Maps
def grd:List Int→List Sgt→List Sgt
 | _,[]=>[]
 | [],_ :: _=>[]
 | b :: bs,s :: S=>if b=s.src then s :: grd bs S else grd (b :: bs) S
theorem grd_nil:∀ S,grd [] S=[]
 | []=>rfl
 | _ :: _=>rfl
theorem grd_end:∀ bs,grd bs []=[]
 | []=>rfl
 | _ :: _=>rfl
theorem find_grd (bys:List Int):∀ (S f:List Sgt),S.foldl (findStep bys) f=f ++ grd (bys.drop f.length) S
 | [],f=>by simp [grd_end]
 | s :: S,f=>by
   rw [List.foldl_cons,find_grd bys S,findStep]
   by_cases h:f.length<bys.length
   ·rw [List.drop_eq_getElem_cons h,grd,List.getElem?_eq_getElem h]
    by_cases e:bys[f.length]=s.src
    ·rw [if_pos (by rw [e]),if_pos e,List.length_append,List.append_assoc]
     rfl
    ·rw [if_neg (fun h2=>e (Option.some.inj h2)),if_neg e,List.drop_eq_getElem_cons h]
   ·have hd:bys.drop f.length=[]:=List.drop_eq_nil_of_le (by omega)
    rw [hd,List.getElem?_eq_none (by omega),if_neg (by simp),hd,grd_nil,grd_nil]
theorem findS_grd (bys:List Int) (S:List Sgt):findS bys S=grd bys S:=by
 have h:=find_grd bys S []
 simpa [findS] using h
theorem grd_sub:∀ (S:List Sgt) (bs:List Int),(grd bs S).Sublist S
 | [],bs=>by rw [grd_end];exact List.Sublist.refl _
 | s :: S,[]=>by rw [grd_nil];exact List.nil_sublist _
 | s :: S,b :: bs=>by
   rw [grd]
   split
   ·exact (grd_sub S bs).cons_cons s
   ·exact (grd_sub S (b :: bs)).cons s
theorem grd_src:∀ (S:List Sgt) (bs:List Int),(grd bs S).map Sgt.src=bs.take (grd bs S).length
 | [],bs=>by rw [grd_end];simp
 | s :: S,[]=>by rw [grd_nil];simp
 | s :: S,b :: bs=>by
   rw [grd]
   split
   ·rename_i h
    rw [List.map_cons,grd_src S bs,List.length_cons,List.take_succ_cons,h]
   ·exact grd_src S (b :: bs)
theorem grd_all:∀ (S:List Sgt) (bs:List Int),(S.map Sgt.src).Pairwise (·<·)→bs.Pairwise (·<·)→(∀ b∈bs,b∈S.map Sgt.src)→(grd bs S).length=bs.length
 | [],[],_,_,_=>rfl
 | [],b :: bs,_,_,h=>by have:=h b (List.mem_cons_self ..);simp at this
 | s :: S,[],_,_,_=>rfl
 | s :: S,b :: bs,hS,hb,h=>by
   rw [List.map_cons,List.pairwise_cons] at hS
   have hb2:=List.pairwise_cons.1 hb
   rw [grd]
   split
   ·rename_i e
    rw [List.length_cons,grd_all S bs hS.2 hb2.2 fun x hx=>?_,List.length_cons]
    have h1:=hb2.1 x hx
    rcases List.mem_cons.1 (h x (List.mem_cons_of_mem _ hx)) with h2 | h2
    ·omega
    ·exact h2
   ·rename_i e
    refine grd_all S (b :: bs) hS.2 hb fun x hx=>?_
    have hbS:b∈S.map Sgt.src:=by
     rcases List.mem_cons.1 (h b (List.mem_cons_self ..)) with h2 | h2
     ·exact absurd h2 e
     ·exact h2
    rcases List.mem_cons.1 (h x hx) with h2 | h2
    ·have h3:=hS.1 b hbS
     rcases List.mem_cons.1 hx with rfl | hx
     ·exact hbS
     ·have h4:=hb2.1 x hx;omega
    ·exact h2
theorem find_iff {C:List Sgt} (hC:(C.map Sgt.src).Pairwise (·<·)) (bs:List Int):(findS bs C).length=bs.length↔bs.Pairwise (·<·)∧∀ b∈bs,b∈C.map Sgt.src:=by
 rw [findS_grd]
 constructor
 ·intro h
  have hm:=grd_src C bs
  rw [h,List.take_length] at hm
  have hs:((grd bs C).map Sgt.src).Sublist (C.map Sgt.src):=(grd_sub C bs).map _
  rw [hm] at hs
  exact ⟨hC.sublist hs,fun b hb=>hs.subset hb⟩
 ·rintro ⟨h1,h2⟩
  exact grd_all C bs hC h1 h2
theorem src_inj {C:List Sgt} (hC:(C.map Sgt.src).Pairwise (·<·)) {x y:Sgt} (hx:x∈C) (hy:y∈C) (h:x.src=y.src):x=y:=by
 obtain ⟨i,hi,rfl⟩:=List.mem_iff_getElem.1 hx
 obtain ⟨j,hj,rfl⟩:=List.mem_iff_getElem.1 hy
 have hp:=List.pairwise_iff_getElem.1 hC
 have hl:(C.map Sgt.src).length=C.length:=List.length_map ..
 rcases Nat.lt_trichotomy i j with h1 | h1 | h1
 ·have:=hp i j (by omega) (by omega) h1
  simp only [List.getElem_map] at this
  omega
 ·subst h1;rfl
 ·have:=hp j i (by omega) (by omega) h1
  simp only [List.getElem_map] at this
  omega
theorem map_src_inj {C:List Sgt} (hC:(C.map Sgt.src).Pairwise (·<·)):∀ {f g:List Sgt},(∀ s∈f,s∈C)→(∀ s∈g,s∈C)→f.map Sgt.src=g.map Sgt.src→f=g
 | [],[],_,_,_=>rfl
 | [],_ :: _,_,_,h=>by simp at h
 | _ :: _,[],_,_,h=>by simp at h
 | x :: f,y :: g,hf,hg,h=>by
   rw [List.map_cons,List.map_cons,List.cons.injEq] at h
   rw [src_inj hC (hf x (List.mem_cons_self ..)) (hg y (List.mem_cons_self ..)) h.1,map_src_inj hC (fun s hs=>hf s (List.mem_cons_of_mem _ hs)) (fun s hs=>hg s (List.mem_cons_of_mem _ hs)) h.2]
theorem find_eq {C fs:List Sgt} {bs:List Int} (hC:(C.map Sgt.src).Pairwise (·<·)) (hm:fs.map Sgt.src=bs) (hf:∀ s∈fs,s∈C) (hb:bs.Pairwise (·<·)):findS bs C=fs:=by
 have hl:=(find_iff hC bs).2 ⟨hb,fun b hbm=>by rw [← hm] at hbm;obtain ⟨s,hs,rfl⟩:=List.mem_map.1 hbm;exact List.mem_map.2 ⟨s,hf s hs,rfl⟩⟩
 rw [findS_grd] at hl ⊢
 have h1:=grd_src C bs
 rw [hl,List.take_length] at h1
 exact map_src_inj hC (fun s hs=>(grd_sub C bs).subset hs) hf (h1.trans hm.symm)
end Go.Proofs.YtoiompoapikkbaaGreat
/- Layer 2: CheckClash. -/
namespace Go.Proofs.YtoiompoapikkbaaGreat
open Go.RowKit Go.Maps
theorem Sq.take_ {α:Type} {Q:World→Nat→Nat→Nat→α→Prop} {size:Nat} {w:World} {B n:Nat} {A:Option Addr} {xs:List α} (h:Sq Q size w B A n xs) {k:Nat} (hk:k≤n):Sq Q size w B A k (xs.take k):=by
 refine ⟨by rw [List.length_take,h.1];omega,fun h0=>?_⟩
 obtain ⟨b,o,e,hb,hc⟩:=h.2 (by omega)
 refine ⟨b,o,e,hb,fun j x hx=>hc j x ?_⟩
 have hj:j<k:=by have h1:=(List.getElem?_eq_some_iff.1 hx).1;rw [List.length_take] at h1;omega
 rwa [List.getElem?_take_of_lt hj] at hx
theorem find_mem (bs:List Int) (C:List Sgt):∀ s∈findS bs C,s∈C:=by
 intro s hs
 rw [findS_grd] at hs
 exact (grd_sub C bs).subset hs
set_option maxRecDepth 10000 in
set_option maxHeartbeats 8000000 in
theorem p_CheckClash (l:Led) (x:Lsl) (kn:Int) (bs:List Int) (D:Option Addr) (m c0:Nat) (w:World) (hf:x.fit) (hd:LedIn w w.heap.size x l) (hm:m≤9223372036854775807) (hby:Is w w.heap.size D m bs) :
 Calls Tryz.prog 32 #[.agg #[.slice x.pA x.pn x.pc,.slice x.rA x.rn x.rc,.slice x.tA x.tn x.tc,.slice x.sA x.sn x.sc],.int .i64 kn,.slice D m c0] w fun e w'=>e=.returned (.int .i64 (ccE l kn bs))∧Below w.heap.size w w':=by
 obtain ⟨pA,pn,pc,rA,rn,rc,tA,tn,tc,sA,sn,sc⟩:=x
 have HD:=Lib.hid hd
 have hml:maxLen≤9223372036854775807:=by decide
 have hpn:pn≤9223372036854775807:=by have:=hf.p;dsimp only at this;omega
 have hrn:rn≤9223372036854775807:=by have:=hf.r;dsimp only at this;omega
 have htn:tn≤9223372036854775807:=by have:=hf.t;dsimp only at this;omega
 have hsn:sn≤9223372036854775807:=by have:=hf.s;dsimp only at this;omega
 clear hd hf hml
 have HBY:=Lib.hid hby
 clear hby
 obtain ⟨v,hv⟩:∃ v,preE l [kn]=v:=⟨_,rfl⟩
 have HV:Hid (orL [errI (ledB l) 24,errI (daysOk [kn]) 6]=v):=by show _=_;exact hv
 by_cases hv0:v=0
 rotate_left
 ·have hres:ccE l kn bs=v:=by rw [ccE,if_neg (by rw [hv];exact hv0),hv]
  rw [hres]
  have hv1:(v != 0)=true:=by simpa using hv0
  clear hres hv hv0
  go_enter Tryz.func32,Tryz.ntmps32
  go_wp2_with (first | (go_at_call 18;refine (p_Check l ⟨pA,pn,pc,rA,rn,rc,tA,tn,tc,sA,sn,sc⟩ _ hpn hrn htn hsn (HD.out.now (by exact bel_))).mono ?_;rintro e w1 ⟨rfl,hb1⟩;have HB1:Below w.heap.size w w1:=Below.then_ (by exact bel_) hb1;have hs1:=HB1.size;have bL0:=BoxA.new w 27 #[.slice pA pn pc,.slice rA rn rc,.slice tA tn tc,.slice sA sn sc];have bL1:=bL0.ext hb1;have kL1:=bL1.cell;have zL1:=bL1.lt;clear hb1) | (go_at_call 100;refine (p_checkDays [kn] _ 1 1 _ (by decide) (Rd.new _ #[.int .i64 kn] _ 1 1 _ (by simp) rfl)).mono ?_;rintro e w2 ⟨rfl,hb2⟩;have HB2:Below w.heap.size w w2:=Below.then_ (by exact bel_) hb2;have hs2:=HB2.size;have bL2:=(bL1.alloc _).ext hb2;have kL2:=bL2.cell;have zL2:=bL2.lt;clear kL1 zL1;clear hb2) | (go_at_call 99;refine (p_first [errI (ledB l) 24,errI (daysOk [kn]) 6] v _ 2 2 _ (by decide) (Rd.new _ #[.int .i64 (errI (ledB l) 24),.int .i64 (errI (daysOk [kn]) 6)] _ 1 2 _ (by simp) rfl) HV.out).mono ?_;rintro e w1 ⟨rfl,rfl⟩))
  go_ret
  exact ⟨rfl,by exact bel_⟩
 subst hv0
 have hlb:=(pre_zero hv).1
 have HLO:=Lib.hid (led_ok hlb)
 cases ho:dblR (opnL l kn).M (opnL l kn).P (cntR l kn) with
 | some q =>
   have hres:ccE l kn bs=25:=by rw [ccE,if_pos hv,ho]
   rw [hres]
   have HDR:=Lib.hid ho
   clear hres ho hv hlb
   go_enter Tryz.func32,Tryz.ntmps32
   go_wp2_with (first | (go_at_call 18;refine (p_Check l ⟨pA,pn,pc,rA,rn,rc,tA,tn,tc,sA,sn,sc⟩ _ hpn hrn htn hsn (HD.out.now (by exact bel_))).mono ?_;rintro e w1 ⟨rfl,hb1⟩;have HB1:Below w.heap.size w w1:=Below.then_ (by exact bel_) hb1;have hs1:=HB1.size;have bL0:=BoxA.new w 27 #[.slice pA pn pc,.slice rA rn rc,.slice tA tn tc,.slice sA sn sc];have bL1:=bL0.ext hb1;have kL1:=bL1.cell;have zL1:=bL1.lt;clear hb1) | (go_at_call 100;refine (p_checkDays [kn] _ 1 1 _ (by decide) (Rd.new _ #[.int .i64 kn] _ 1 1 _ (by simp) rfl)).mono ?_;rintro e w2 ⟨rfl,hb2⟩;have HB2:Below w.heap.size w w2:=Below.then_ (by exact bel_) hb2;have hs2:=HB2.size;have bL2:=(bL1.alloc _).ext hb2;have kL2:=bL2.cell;have zL2:=bL2.lt;clear kL1 zL1;clear hb2) | (go_at_call 99;refine (p_first [errI (ledB l) 24,errI (daysOk [kn]) 6] 0 _ 2 2 _ (by decide) (Rd.new _ #[.int .i64 (errI (ledB l) 24),.int .i64 (errI (daysOk [kn]) 6)] _ 1 2 _ (by simp) rfl) HV.out).mono ?_;rintro e w1 ⟨rfl,rfl⟩) | (go_at_call 101;refine (p_openA l ⟨pA,pn,pc,rA,rn,rc,tA,tn,tc,sA,sn,sc⟩ kn _ HLO.out (HD.out.now (by exact bel_))).mono ?_;rintro e w5 ⟨RA,Rn,Rc,SA,Sn,Sc,bm,TA,Tn,Tc,PA,Pn,Pc,rfl,hb5,hO⟩;have HB5:Below w.heap.size w w5:=Below.then_ (by exact bel_) hb5;have hs5:=HB5.size;have HO:=Lib.hid hO;have bL5:=(bL2.alloc _).ext hb5;have kL5:=bL5.cell;have zL5:=bL5.lt;clear kL2 zL2;clear hO hb5) | (go_at_call 107;have hag:=p_agree (opnL l kn).M (cntR l kn) (opnL l kn).P ⟨⟨pA,pn,pc,rA,rn,rc,tA,tn,tc,sA,sn,sc⟩,kn,RA,Rn,Rc,SA,Sn,Sc,bm,TA,Tn,Tc,PA,Pn,Pc⟩ (w5.alloc (.cells #[.slice pA pn pc,.slice rA rn rc,.slice tA tn tc,.slice sA sn sc,.int .i64 kn,.slice RA Rn Rc,.slice SA Sn Sc,.map (some bm),.slice TA Tn Tc,.slice PA Pn Pc] 119)) (HO.out.acc.now (by exact bel_));rw [HDR.out] at hag;simp only [Option.isNone_none,Option.isNone_some,errI] at hag;refine hag.mono ?_;rintro e w6 ⟨rfl,hb6⟩;have HB6:Below w.heap.size w w6:=Below.then_ HB5 (Below.then_ (by exact bel_) hb6);have hs6:=HB6.size;have bA6:=(BoxA.new w5 119 #[.slice pA pn pc,.slice rA rn rc,.slice tA tn tc,.slice sA sn sc,.int .i64 kn,.slice RA Rn Rc,.slice SA Sn Sc,.map (some bm),.slice TA Tn Tc,.slice PA Pn Pc]).ext hb6;have k6:=bA6.cell;have z6:=bA6.lt;have HO6:=Lib.hid ((HO.out.now (show Below w5.heap.size w5 (w5.alloc (.cells #[.slice pA pn pc,.slice rA rn rc,.slice tA tn tc,.slice sA sn sc,.int .i64 kn,.slice RA Rn Rc,.slice SA Sn Sc,.map (some bm),.slice TA Tn Tc,.slice PA Pn Pc] 119)) by exact bel_)).now hb6);have HBA:=Lib.hid bA6;clear kL5 zL5 hb6))
   go_ret
   exact ⟨rfl,HB6⟩
 | none =>
 have HDR:=Lib.hid ho
 obtain ⟨z,hres⟩:∃ z,ccE l kn bs=z:=⟨_,rfl⟩
 rw [hres]
 obtain ⟨fs,hfs⟩:∃ fs,findS bs (cntS l kn)=fs:=⟨_,rfl⟩
 obtain ⟨n,hn⟩:∃ n,fs.length=n:=⟨_,rfl⟩
 have HBL:Hid (bs.length=m):=by show _=_;exact HBY.out.len
 have hz1:z=if n=m then ccL l kn fs else 28:=by rw [← hres,ccE,if_pos hv,ho];dsimp only;rw [hfs,hn,HBL.out]
 have hfm:∀ s∈fs,s∈cntS l kn:=by rw [← hfs];exact find_mem bs _
 have HZ1:=Lib.hid hz1
 have HFS:=Lib.hid hfs
 have HFL:=Lib.hid hn
 have HFM:=Lib.hid hfm
 clear hres ho hv hlb hz1 hfs hn hfm
 go_enter Tryz.func32,Tryz.ntmps32
 go_wp2_with (first | (go_at_call 18;refine (p_Check l ⟨pA,pn,pc,rA,rn,rc,tA,tn,tc,sA,sn,sc⟩ _ hpn hrn htn hsn (HD.out.now (by exact bel_))).mono ?_;rintro e w1 ⟨rfl,hb1⟩;have HB1:Below w.heap.size w w1:=Below.then_ (by exact bel_) hb1;have hs1:=HB1.size;have bL0:=BoxA.new w 27 #[.slice pA pn pc,.slice rA rn rc,.slice tA tn tc,.slice sA sn sc];have bL1:=bL0.ext hb1;have kL1:=bL1.cell;have zL1:=bL1.lt;clear hb1) | (go_at_call 100;refine (p_checkDays [kn] _ 1 1 _ (by decide) (Rd.new _ #[.int .i64 kn] _ 1 1 _ (by simp) rfl)).mono ?_;rintro e w2 ⟨rfl,hb2⟩;have HB2:Below w.heap.size w w2:=Below.then_ (by exact bel_) hb2;have hs2:=HB2.size;have bL2:=(bL1.alloc _).ext hb2;have kL2:=bL2.cell;have zL2:=bL2.lt;clear kL1 zL1;clear hb2) | (go_at_call 99;refine (p_first [errI (ledB l) 24,errI (daysOk [kn]) 6] 0 _ 2 2 _ (by decide) (Rd.new _ #[.int .i64 (errI (ledB l) 24),.int .i64 (errI (daysOk [kn]) 6)] _ 1 2 _ (by simp) rfl) HV.out).mono ?_;rintro e w1 ⟨rfl,rfl⟩) | (go_at_call 101;refine (p_openA l ⟨pA,pn,pc,rA,rn,rc,tA,tn,tc,sA,sn,sc⟩ kn _ HLO.out (HD.out.now (by exact bel_))).mono ?_;rintro e w5 ⟨RA,Rn,Rc,SA,Sn,Sc,bm,TA,Tn,Tc,PA,Pn,Pc,rfl,hb5,hO⟩;have HB5:Below w.heap.size w w5:=Below.then_ (by exact bel_) hb5;have hs5:=HB5.size;have HO:=Lib.hid hO;have bL5:=(bL2.alloc _).ext hb5;have kL5:=bL5.cell;have zL5:=bL5.lt;clear kL2 zL2;clear hO hb5) | (go_at_call 107;have hag:=p_agree (opnL l kn).M (cntR l kn) (opnL l kn).P ⟨⟨pA,pn,pc,rA,rn,rc,tA,tn,tc,sA,sn,sc⟩,kn,RA,Rn,Rc,SA,Sn,Sc,bm,TA,Tn,Tc,PA,Pn,Pc⟩ (w5.alloc (.cells #[.slice pA pn pc,.slice rA rn rc,.slice tA tn tc,.slice sA sn sc,.int .i64 kn,.slice RA Rn Rc,.slice SA Sn Sc,.map (some bm),.slice TA Tn Tc,.slice PA Pn Pc] 119)) (HO.out.acc.now (by exact bel_));rw [HDR.out] at hag;simp only [Option.isNone_none,Option.isNone_some,errI] at hag;refine hag.mono ?_;rintro e w6 ⟨rfl,hb6⟩;have HB6:Below w.heap.size w w6:=Below.then_ HB5 (Below.then_ (by exact bel_) hb6);have hs6:=HB6.size;have bA6:=(BoxA.new w5 119 #[.slice pA pn pc,.slice rA rn rc,.slice tA tn tc,.slice sA sn sc,.int .i64 kn,.slice RA Rn Rc,.slice SA Sn Sc,.map (some bm),.slice TA Tn Tc,.slice PA Pn Pc]).ext hb6;have k6:=bA6.cell;have z6:=bA6.lt;have HO6:=Lib.hid ((HO.out.now (show Below w5.heap.size w5 (w5.alloc (.cells #[.slice pA pn pc,.slice rA rn rc,.slice tA tn tc,.slice sA sn sc,.int .i64 kn,.slice RA Rn Rc,.slice SA Sn Sc,.map (some bm),.slice TA Tn Tc,.slice PA Pn Pc] 119)) by exact bel_)).now hb6);have HBA:=Lib.hid bA6;clear kL5 zL5 hb6))
 have HSL:Hid ((cntS l kn).length=Sn):=by show _=_;exact HO6.out.sg.len
 have hSn:Sn≤60:=HO6.out.sn
 have hn60:n≤60:=by
  have h:=HFL.out
  have h2:=(grd_sub (cntS l kn) bs).length_le
  rw [← findS_grd,HFS.out,HSL.out] at h2
  omega
 refine (p_find (cntS l kn) bs ⟨⟨pA,pn,pc,rA,rn,rc,tA,tn,tc,sA,sn,sc⟩,kn,RA,Rn,Rc,SA,Sn,Sc,bm,TA,Tn,Tc,PA,Pn,Pc⟩ D m c0 _ hSn hm HO6.out.sg (HBY.out.now HB6)).mono ?_
 rw [HFS.out]
 rintro e w8 ⟨A,c,rfl,hb8,ho8⟩
 rw [HFL.out] at ho8 ⊢
 have HB8:Below w.heap.size w w8:=Below.then_ HB6 hb8
 have hs8:=HB8.size
 have HBA8:=bA6.ext hb8
 have hHO8:=HO6.out.now hb8
 have HO8:=Lib.hid hHO8
 obtain ⟨A',c',hAc,hcc⟩:=own_slice ho8
 simp only [Value.slice.injEq,true_and] at hAc
 obtain ⟨rfl,rfl⟩:=hAc
 have hSF:Sgs w8 w8.heap.size A n fs:=sq_sg (Rd.of_own ho8) HFL.out
 have HSF:=Lib.hid hSF
 have HOW8:=Lib.hid ho8
 have k8:=HBA8.cell
 have z8:=HBA8.lt
 have HBA:=Lib.hid HBA8
 have HCON:Hid (∀ (W:World) (A:Option Addr) (n c:Nat) (S:List Sgt) (v:Bool),Below w8.heap.size w8 W→(∀ s∈S,s∈cntS l kn)→n≤1000000→Sgs W W.heap.size A n S→conB l kn S=v→Calls Tryz.prog 108 #[.agg #[.slice pA pn pc,.slice rA rn rc,.slice tA tn tc,.slice sA sn sc,.int .i64 kn,.slice RA Rn Rc,.slice SA Sn Sc,.map (some bm),.slice TA Tn Tc,.slice PA Pn Pc],.slice A n c] W fun e w'=>e=.returned (.bool v)∧Below W.heap.size W w'):=by
  show ∀ _,_
  exact fun W A n c S v hW hS hn hs hv=>p_contradictA l kn S v ⟨⟨pA,pn,pc,rA,rn,rc,tA,tn,tc,sA,sn,sc⟩,kn,RA,Rn,Rc,SA,Sn,Sc,bm,TA,Tn,Tc,PA,Pn,Pc⟩ A n c W HLO.out (HO8.out.now hW) hS hn hs hv
 clear k6 z6 hHO8 ho8 hSF HBA8 hb8
 by_cases hnm:n=m
 rotate_left
 ·have hz28:z=28:=by rw [HZ1.out,if_neg hnm]
  subst hz28
  have hnd:((n:Int) == (m:Int))=false:=by simp;omega
  clear hnm
  go_wp2_with fail
  go_ret
  exact ⟨rfl,HB8⟩
 subst hnm
 have hnd:((n:Int) == (n:Int))=true:=by simp
 obtain ⟨qc,hqc⟩:∃ qc,conB l kn fs=qc:=⟨_,rfl⟩
 have HQC:=Lib.hid hqc
 clear hqc
 go_wp2_with fail
 refine (HCON.out _ A n c fs qc (Below.refl _ _) HFM.out (by omega) HSF.out HQC.out).mono ?_
 rintro e w9 ⟨rfl,hb9⟩
 have HB9:Below w.heap.size w w9:=Below.then_ HB8 hb9
 cases qc with
 | false =>
   have hz28:z=28:=by
    have h:z=ccL l kn fs:=by simpa using HZ1.out
    rw [h,ccL,HQC.out];rfl
   subst hz28
   go_wp2_with fail
   go_ret
   exact ⟨rfl,HB9⟩
 | true =>
   have HZC:Hid (z=if (List.range fs.length).any (fun i=>conB l kn (fs.eraseIdx i))=true then 28 else 0):=by
    show _=_
    have h:z=ccL l kn fs:=by simpa using HZ1.out
    rw [h,ccL,HQC.out];rfl
   have HB9':=Lib.hid hb9
   clear k8 z8
   go_wp2_with fail
   go_loopw [47] (fun i wr=>∃ k:Nat,k≤n∧i=.int .i64 k∧(List.range k).any (fun i=>conB l kn (fs.eraseIdx i))=false∧Below w8.heap.size w8 wr) (fun i _=>n - (intOf i).toNat)
   case atStart=>exact ⟨0,by omega,rfl,rfl,hb9⟩
   case round =>
    obtain ⟨k,hk,rfl,hany,hQ⟩:=hrel
    have HAN:=Lib.hid hany
    clear hany
    have hsq:=hQ.size
    have bAq:=HBA.out.ext hQ
    have kAq:=bAq.cell
    have zAq:=bAq.lt
    clear bAq
    by_cases hlt:k<n
    ·obtain ⟨g,cap,hv,hg0,hg1,hg2,hg3⟩:=own_shape2 HOW8.out (by omega)
     simp only [Value.slice.injEq,true_and] at hv
     obtain ⟨rfl,rfl⟩:=hv
     have hg1w:g<wr.heap.size:=by omega
     have g1:decide ((k:Int)<0)=false:=by simp
     have hkc:k≤c:=by omega
     have hkk:(k:Int)≤(k:Int)+1:=by omega
     have hk0:(0:Int)≤(k:Int):=by omega
     have q2:(0:Int)≤(k:Int)+1:=by omega
     have q4:(k:Int)+1≤(n:Int):=by omega
     have q10:IntKind.i64.wrap ((k:Int)+1)=(k:Int)+1:=IntWalk.i64_in _ (by omega)
     have q11:((k:Int)+1).toNat=k+1:=by omega
     obtain ⟨qe,hqe⟩:∃ qe,conB l kn (fs.eraseIdx k)=qe:=⟨_,rfl⟩
     have HQX:=Lib.hid hqe
     have HQE:Hid (conB l kn (fs.take k ++ fs.drop (k+1))=qe):=by show _=_;rw [← List.eraseIdx_eq_take_drop_succ];exact hqe
     have HINC:Hid (∀ s∈fs.take k ++ fs.drop (k+1),s∈cntS l kn):=by
      show ∀ _,_
      intro s hs
      rcases List.mem_append.1 hs with hs | hs
      ·exact HFM.out s (List.mem_of_mem_take hs)
      ·exact HFM.out s (List.mem_of_mem_drop hs)
     have HX2:Hid (∀ W:World,Below wr.heap.size wr W→Sgs W W.heap.size (some ⟨g,0,none⟩) k (fs.take k)):=by
      show ∀ _,_
      exact fun W hW=>Sq.take_ (HSF.out.now abS (hQ.trans (hW.mono hsq))) (by omega)
     clear hqe
     by_cases hci:c=k+1
     ·subst hci
      have HY2:Hid (∀ W:World,Below wr.heap.size wr W→Sgs W W.heap.size (some ⟨g,0,none⟩) 0 (fs.drop (k+1))):=by
       show ∀ _,_
       exact fun W hW=>by rw [List.drop_of_length_le (by rw [HFL.out];omega)];exact Sq.nil_
      go_wp2_with fail
      (refine wp_region_bheld 11 (by kernel_rfl) rfl (fun hS=>?_);simp only [List.reduceReplicate,Array.replicate_succ,Array.replicate_zero])
      (refine tk_ (i:=0) (v:=?_) rfl ?_ hS ?_ (fun _ _ _ h=>h);rotate_left;focus (intro w2 hw2;(try dsimp only at hw2);obtain ⟨hc2,hf2⟩:=bcell hw2;go_simp;first | done | with_reducible rfl);(try simp only [Act.put,pu1,pu2,pu3]))
      (refine tk_ (i:=1) (v:=?_) rfl ?_ hS ?_ (fun _ _ _ h=>h);rotate_left;focus (intro w2 hw2;(try dsimp only at hw2);obtain ⟨hc2,hf2⟩:=bcell hw2;go_simp;first | done | with_reducible rfl);(try simp only [Act.put,pu1,pu2,pu3]))
      (refine tk_ (i:=2) (v:=?_) rfl ?_ hS ?_ (fun _ _ _ h=>h);rotate_left;focus (intro w2 hw2;(try dsimp only at hw2);obtain ⟨hc2,hf2⟩:=bcell hw2;go_simp;first | done | with_reducible rfl);(try simp only [Act.put,pu1,pu2,pu3]))
      (refine tk_ (i:=3) (v:=?_) rfl ?_ hS ?_ (fun _ _ _ h=>h);rotate_left;focus (intro w2 hw2;(try dsimp only at hw2);obtain ⟨hc2,hf2⟩:=bcell hw2;go_simp;first | done | with_reducible rfl);(try simp only [Act.put,pu1,pu2,pu3]))
      (refine tk_ (i:=4) (v:=?_) rfl ?_ hS ?_ (fun _ _ _ h=>h);rotate_left;focus (intro w2 hw2;(try dsimp only at hw2);obtain ⟨hc2,hf2⟩:=bcell hw2;go_simp;first | done | with_reducible rfl);(try simp only [Act.put,pu1,pu2,pu3]))
      (refine tk_ (i:=5) (v:=?_) rfl ?_ hS ?_ (fun _ _ _ h=>h);rotate_left;focus (intro w2 hw2;(try dsimp only at hw2);obtain ⟨hc2,hf2⟩:=bcell hw2;go_simp;first | done | with_reducible rfl);(try simp only [Act.put,pu1,pu2,pu3]))
      (refine tk_ (i:=6) (v:=?_) rfl ?_ hS ?_ (fun _ _ _ h=>h);rotate_left;focus (intro w2 hw2;(try dsimp only at hw2);obtain ⟨hc2,hf2⟩:=bcell hw2;go_simp;first | done | with_reducible rfl);(try simp only [Act.put,pu1,pu2,pu3]))
      (refine tk_ (i:=7) (v:=?_) rfl ?_ hS ?_ (fun _ _ _ h=>h);rotate_left;focus (intro w2 hw2;(try dsimp only at hw2);obtain ⟨hc2,hf2⟩:=bcell hw2;go_simp;first | done | with_reducible rfl);(try simp only [Act.put,pu1,pu2,pu3]))
      (refine rd_ [8] ?_;refine ah1 rfl fun K hK=>?_;(go_simp);refine hK.out _ _ (hS.alloc hS.size _) (fun hS=>?_);clear hK K;(try simp only [Act.put,pu1,pu2,pu3]))
      refine rd_ [9] ?_
      refine ah1 rfl fun K hK=>?_
      (go_simp;go_at_call 119;refine (p_ConcatS (fs.take k) (fs.drop (k+1)) wr.heap.size g 0 g 0 k 0 (k+1) 0 _ (by omega) (by omega) (HX2.out _ (by exact bel_)) (HY2.out _ (by exact bel_)) (by simp) (by simp) (by simp)).mono ?_;rintro e wc ⟨A3,c3,rfl,hbc,hsc⟩;go_simp)
      have hc:=Below.then_ hS hbc
      have HSC:=Lib.hid hsc
      refine hK.out _ _ hc (fun hS=>?_)
      clear hK K hsc
      (try simp only [Act.put,pu1,pu2,pu3])
      refine rd_ [10] ?_
      refine ah1 rfl fun K hK=>?_
      (go_simp;refine (HCON.out _ A3 (k+0) c3 (fs.take k ++ fs.drop (k+1)) qe (Below.then_ hQ hc) HINC.out (by omega) HSC.out HQE.out).mono ?_;rintro e wd ⟨rfl,hbd2⟩;go_simp)
      have hd:=Below.then_ hc hbd2
      refine hK.out _ _ hd (fun hS=>?_)
      clear hK K
      (try simp only [Act.put,pu1,pu2,pu3])
      refine wpAnyH_done (by kernel_rfl) ?_ _
      have hQd:=Below.then_ hQ hd
      have hBd:Below w.heap.size w wd:=HB8.trans (hQd.mono hs8)
      clear hS hbc hbd2 hc
      cases qe with
      | true =>
        have hz28:z=28:=by
         rw [HZC.out,if_pos]
         rw [List.any_eq_true]
         exact ⟨k,List.mem_range.2 (by rw [HFL.out];exact hlt),HQX.out⟩
        subst hz28
        go_wp2_with fail
        go_ret
        exact ⟨rfl,hBd⟩
      | false =>
        have HN:Hid ((List.range (k+1)).any (fun i=>conB l kn (fs.eraseIdx i))=false):=by
         show _=_
         rw [List.range_succ,List.any_append,HAN.out]
         simp [HQX.out]
        go_wp2_with fail
        go_roundw
        case rel=>exact ⟨k+1,by omega,by go_num,HN.out,hQd⟩
        case measure=>exact ms_
     ·have hlt2:k+1<c:=by omega
      have HY2:Hid (∀ W:World,Below wr.heap.size wr W→Sgs W W.heap.size (some ⟨g,(k+1)*7,none⟩) (n - (k+1)) (fs.drop (k+1))):=by
       show ∀ _,_
       intro W hW
       have h:=Sq.drop_ (HSF.out.now abS (hQ.trans (hW.mono hsq))) (show k+1≤n by omega)
       rwa [Nat.zero_add] at h
      go_wp2_with fail
      (refine wp_region_bheld 11 (by kernel_rfl) rfl (fun hS=>?_);simp only [List.reduceReplicate,Array.replicate_succ,Array.replicate_zero])
      (refine tk_ (i:=0) (v:=?_) rfl ?_ hS ?_ (fun _ _ _ h=>h);rotate_left;focus (intro w2 hw2;(try dsimp only at hw2);obtain ⟨hc2,hf2⟩:=bcell hw2;go_simp;first | done | with_reducible rfl);(try simp only [Act.put,pu1,pu2,pu3]))
      (refine tk_ (i:=1) (v:=?_) rfl ?_ hS ?_ (fun _ _ _ h=>h);rotate_left;focus (intro w2 hw2;(try dsimp only at hw2);obtain ⟨hc2,hf2⟩:=bcell hw2;go_simp;first | done | with_reducible rfl);(try simp only [Act.put,pu1,pu2,pu3]))
      (refine tk_ (i:=2) (v:=?_) rfl ?_ hS ?_ (fun _ _ _ h=>h);rotate_left;focus (intro w2 hw2;(try dsimp only at hw2);obtain ⟨hc2,hf2⟩:=bcell hw2;go_simp;first | done | with_reducible rfl);(try simp only [Act.put,pu1,pu2,pu3]))
      (refine tk_ (i:=3) (v:=?_) rfl ?_ hS ?_ (fun _ _ _ h=>h);rotate_left;focus (intro w2 hw2;(try dsimp only at hw2);obtain ⟨hc2,hf2⟩:=bcell hw2;go_simp;first | done | with_reducible rfl);(try simp only [Act.put,pu1,pu2,pu3]))
      (refine tk_ (i:=4) (v:=?_) rfl ?_ hS ?_ (fun _ _ _ h=>h);rotate_left;focus (intro w2 hw2;(try dsimp only at hw2);obtain ⟨hc2,hf2⟩:=bcell hw2;go_simp;first | done | with_reducible rfl);(try simp only [Act.put,pu1,pu2,pu3]))
      (refine tk_ (i:=5) (v:=?_) rfl ?_ hS ?_ (fun _ _ _ h=>h);rotate_left;focus (intro w2 hw2;(try dsimp only at hw2);obtain ⟨hc2,hf2⟩:=bcell hw2;go_simp;first | done | with_reducible rfl);(try simp only [Act.put,pu1,pu2,pu3]))
      (refine tk_ (i:=6) (v:=?_) rfl ?_ hS ?_ (fun _ _ _ h=>h);rotate_left;focus (intro w2 hw2;(try dsimp only at hw2);obtain ⟨hc2,hf2⟩:=bcell hw2;go_simp;first | done | with_reducible rfl);(try simp only [Act.put,pu1,pu2,pu3]))
      (refine tk_ (i:=7) (v:=?_) rfl ?_ hS ?_ (fun _ _ _ h=>h);rotate_left;focus (intro w2 hw2;(try dsimp only at hw2);obtain ⟨hc2,hf2⟩:=bcell hw2;go_simp;first | done | with_reducible rfl);(try simp only [Act.put,pu1,pu2,pu3]))
      (refine rd_ [8] ?_;refine ah1 rfl fun K hK=>?_;(go_simp);refine hK.out _ _ (hS.alloc hS.size _) (fun hS=>?_);clear hK K;(try simp only [Act.put,pu1,pu2,pu3]))
      refine rd_ [9] ?_
      refine ah1 rfl fun K hK=>?_
      (go_simp;go_at_call 119;refine (p_ConcatS (fs.take k) (fs.drop (k+1)) wr.heap.size g 0 g ((k+1)*7) k (n - (k+1)) c (c - (k+1)) _ (by omega) (by omega) (HX2.out _ (by exact bel_)) (HY2.out _ (by exact bel_)) (by simp) (by simp) (by simp)).mono ?_;rintro e wc ⟨A3,c3,rfl,hbc,hsc⟩;go_simp)
      have hc:=Below.then_ hS hbc
      have HSC:=Lib.hid hsc
      refine hK.out _ _ hc (fun hS=>?_)
      clear hK K hsc
      (try simp only [Act.put,pu1,pu2,pu3])
      refine rd_ [10] ?_
      refine ah1 rfl fun K hK=>?_
      (go_simp;refine (HCON.out _ A3 (k+(n - (k+1))) c3 (fs.take k ++ fs.drop (k+1)) qe (Below.then_ hQ hc) HINC.out (by omega) HSC.out HQE.out).mono ?_;rintro e wd ⟨rfl,hbd2⟩;go_simp)
      have hd:=Below.then_ hc hbd2
      refine hK.out _ _ hd (fun hS=>?_)
      clear hK K
      (try simp only [Act.put,pu1,pu2,pu3])
      refine wpAnyH_done (by kernel_rfl) ?_ _
      have hQd:=Below.then_ hQ hd
      have hBd:Below w.heap.size w wd:=HB8.trans (hQd.mono hs8)
      clear hS hbc hbd2 hc
      cases qe with
      | true =>
        have hz28:z=28:=by
         rw [HZC.out,if_pos]
         rw [List.any_eq_true]
         exact ⟨k,List.mem_range.2 (by rw [HFL.out];exact hlt),HQX.out⟩
        subst hz28
        go_wp2_with fail
        go_ret
        exact ⟨rfl,hBd⟩
      | false =>
        have HN:Hid ((List.range (k+1)).any (fun i=>conB l kn (fs.eraseIdx i))=false):=by
         show _=_
         rw [List.range_succ,List.any_append,HAN.out]
         simp [HQX.out]
        go_wp2_with fail
        go_roundw
        case rel=>exact ⟨k+1,by omega,by go_num,HN.out,hQd⟩
        case measure=>exact ms_
    ·have hz0:z=0:=by
      rw [HZC.out,HFL.out,show n=k by omega,HAN.out]
      rfl
     subst hz0
     have hB8:Below w.heap.size w wr:=HB8.trans (hQ.mono hs8)
     go_wp2_with fail
     go_ret
     exact ⟨rfl,hB8⟩
end Go.Proofs.YtoiompoapikkbaaGreat
/- Layer 2: the chapter's example. -/
namespace Go.Proofs.YtoiompoapikkbaaGreat
open Go.RowKit Go.Maps
def exL2:Led:=⟨[⟨1,3⟩,⟨2,1⟩],[⟨10,5,1,[1,2,3],10,10,0⟩,⟨11,6,1,[2],40,40,0⟩],[⟨20,10,7,[1,2],20,50,60,0⟩,⟨21,10,5,[3],5,30,60,0⟩],[⟨30,5,1,1,25,70,0⟩,⟨31,0,1,2,22,80,0⟩]⟩
theorem ex2_double:doubleX exL2 50=([10,11],0):=by kernel_rfl
theorem ex2_days:daysX exL2 20 70=((26,40),0):=by kernel_rfl
theorem ex2_clash:clashX exL2 80=([30,31],0):=by kernel_rfl
theorem ex2_where:whereX exL2 1 1 24 60=([0,5],0):=by kernel_rfl
theorem ex2_whole:wholeX exL2 1 30 60=(2,0):=by kernel_rfl
theorem ex2_lies:liesX exL2 10 40 60=(0,0):=by kernel_rfl
theorem ex2_has:leavesX (fun f=>decide (whL exL2 60 19 f=[5])) exL2 5 19 60=([(1,1),(1,2)],0):=by kernel_rfl
theorem ex2_placed:placedX exL2 [25,30] 1 27 60=([0,0,5],0):=by kernel_rfl
theorem ex2_moved:movX exL2 20 30 60=([(1,1),(1,2),(1,3),(2,1)],0):=by kernel_rfl
theorem ex2_true:checkTrueX exL2 60 [41,11]=29:=by kernel_rfl
end Go.Proofs.YtoiompoapikkbaaGreat
