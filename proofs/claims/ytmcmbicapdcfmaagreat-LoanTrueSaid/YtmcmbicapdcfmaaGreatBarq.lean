/- Layer 2 of the texts that LoanBack takes: Barq. -/
import Derived.Test.YtmcmbicapdcfmaaGreatBapq
import Derived.Test.YtmcmbicapdcfmaaGreatBaqq
set_option linter.unusedVariables false
set_option linter.unusedSimpArgs false
set_option maxHeartbeats 16000000
namespace Go.Proofs.YtmcmbicapdcfmaaGreat
open Go.RowKit Go.Maps
theorem wp_cut2 {P:Program} {c:Code} {Q:Exit→Act→World→Prop} {a:Act} {w:World} (R:Act→World→Prop) (h:c.wp P (cutQ R) a w) (h2:∀ a' w',R a' w'→Q .normal a' w'):c.wp P Q a w :=
 Code.wp_mono (fun e a' w' hr=>by cases e <;> first | exact h2 _ _ hr | exact hr.elim) h
theorem own_shape2 {w:World} {base size n:Nat} {e:TypeId} {v:Value} {xs:List Value} (h:w.ownsRow base e size v n xs) (hn:0<n):∃ g cap,v=.slice (some ⟨g,0,none⟩) n cap∧base≤g∧g<w.heap.size∧n≤cap∧cap≤maxLen:=by
 rcases h.2 with ⟨_,h0⟩ | ⟨g,cap,cur,rfl,h1,h2,h3,h4,_,_⟩
 ·omega
 ·exact ⟨g,cap,rfl,h1,block_lt h2,h3,h4⟩
theorem wp_named2 {P:Program} {c:Code} {Q:Exit→Act→World→Prop} {a:Act} {w:World} (h:∀ a0 W,a=a0→w=W→c.wp P Q a0 W):c.wp P Q a w:=h a w rfl rfl
def S1 (bA bS:Nat) (cA cS:Array Value) (V:World):Prop:=(∀ o,V.cell? ⟨bA,o,none⟩=cA[o]?)∧(∀ o,V.cell? ⟨bS,o,none⟩=cS[o]?)∧bA<V.heap.size∧bS<V.heap.size
theorem S1.ext {bA bS:Nat} {cA cS:Array Value} {V V':World} (hb:Below V.heap.size V V') (h:S1 bA bS cA cS V):S1 bA bS cA cS V' :=
 ⟨fun o=>(hb.cell (p:=⟨bA,o,none⟩) h.2.2.1).trans (h.1 o),fun o=>(hb.cell (p:=⟨bS,o,none⟩) h.2.2.2).trans (h.2.1 o),Nat.lt_of_lt_of_le h.2.2.1 hb.size,Nat.lt_of_lt_of_le h.2.2.2 hb.size⟩
def narD (per day:Int) (d:Int × Int):Int × Int:=if per=0 then (d.1,min d.2 day) else (max d.1 (day+1),d.2)
def narS (st:Int × Int) (P:List (Int × Int)) (per day:Int):Option (List (Int × Int)) :=
 if per≠st.1∧(per≠0∨st.2<0) then none
 else if st.2<0 then some P
 else if (narD per day (P.getD st.2.toNat (0,0))).2<(narD per day (P.getD st.2.toNat (0,0))).1 then none else some (P.set st.2.toNat (narD per day (P.getD st.2.toNat (0,0))))
def staySg (M:List ((Int × Int) × Nat)) (R:List Rcp) (s:Sgt):Int × Int:=((stayF M R s.pap s.leaf s.day).1,(stayF M R s.pap s.leaf s.day).2.1)
def narL (M:List ((Int × Int) × Nat)) (R:List Rcp):List Sgt→List (Int × Int)→Option (List (Int × Int))
 | [],P=>some P
 | s :: ss,P=>match narS (staySg M R s) P s.per s.day with
   | none=>none
   | some P'=>narL M R ss P'
theorem narL_app (M:List ((Int × Int) × Nat)) (R:List Rcp):∀ (a b:List Sgt) (P:List (Int × Int)),narL M R (a ++ b) P=(narL M R a P).bind (narL M R b)
 | [],b,P=>rfl
 | s :: a,b,P=>by
   simp only [List.cons_append,narL]
   cases narS (staySg M R s) P s.per s.day with
   | none=>rfl
   | some P'=>exact narL_app M R a b P'
theorem narL_succ {M:List ((Int × Int) × Nat)} {R:List Rcp} {S:List Sgt} {P P':List (Int × Int)} {k:Nat} {s:Sgt} (h:narL M R (S.take k) P=some P') (hs:S[k]?=some s):narL M R (S.take (k+1)) P=narS (staySg M R s) P' s.per s.day:=by
 rw [take_snoc_some hs,narL_app,h]
 show narL M R [s] P'=_
 simp only [narL]
 cases narS (staySg M R s) P' s.per s.day <;> rfl
theorem narL_none {M:List ((Int × Int) × Nat)} {R:List Rcp} {S:List Sgt} {P:List (Int × Int)} {k:Nat} (h:narL M R (S.take k) P=none):narL M R S P=none:=by
 have:narL M R (S.take k ++ S.drop k) P=none:=by rw [narL_app,h];rfl
 rwa [List.take_append_drop] at this
theorem stayL_back (M:List ((Int × Int) × Nat)) (leaf day:Int) (rs:List Rcp):(stayL M leaf day rs).2.1=-1∨∃ k i,getN M k=some i∧(stayL M leaf day rs).2.1=(i:Int):=by
 have g:∀ (rs:List Rcp) (s:Int × Int × Int),(s.2.1=-1∨∃ k i,getN M k=some i∧s.2.1=(i:Int))→((rs.foldl (stayStep M leaf day) s).2.1=-1∨∃ k i,getN M k=some i∧(rs.foldl (stayStep M leaf day) s).2.1=(i:Int)):=by
  intro rs
  induction rs with
  | nil=>intro s h;exact h
  | cons r rs ih =>
    intro s h
    refine ih _ ?_
    unfold stayStep
    split
    ·exact h
    ·simp only [backI]
     cases hg:getN M (r.src,leaf) with
     | none=>exact .inl rfl
     | some i=>exact .inr ⟨_,i,hg,rfl⟩
 exact g rs _ (.inl rfl)
theorem staySg_back {M:List ((Int × Int) × Nat)} {R:List Rcp} {s:Sgt} {n:Nat} (hM:∀ k i,getN M k=some i→i<n):(staySg M R s).2<0∧(staySg M R s).2=-1∨∃ i:Nat,i<n∧(staySg M R s).2=(i:Int):=by
 rcases stayL_back M s.leaf s.day (R.filter (isOfB s.pap s.leaf)) with h | ⟨k,i,hg,h⟩
 ·exact .inl ⟨by show (stayL M s.leaf s.day _).2.1<0;rw [h];decide,h⟩
 ·exact .inr ⟨i,hM k i hg,h⟩
theorem folCells_len (fs:List (Int × Int)):(folCells fs).length=fs.length*2:=by
 induction fs with
 | nil=>rfl
 | cons f fs ih =>
   have e:folCells (f :: fs)=.int .i64 f.1 :: .int .i64 f.2 :: folCells fs:=rfl
   rw [e,List.length_cons,List.length_cons,ih,List.length_cons];omega
theorem rd_of_fos {w:World} {B n:Nat} {A:Option Addr} {fs:List (Int × Int)} (h:Sq QF 2 w B A n fs):Rd w B 2 A n (folCells fs):=by
 refine ⟨by rw [folCells_len,h.len],fun h0=>?_⟩
 obtain ⟨b,o,e,hb,hc⟩:=h.2 h0
 refine ⟨b,o,e,hb,fun j u hu=>?_⟩
 have hj:j<fs.length*2:=by rw [← folCells_len];exact (List.getElem?_eq_some_iff.1 hu).1
 obtain ⟨f,hf⟩:∃ f,fs[j / 2]?=some f:=⟨_,List.getElem?_eq_getElem (by omega)⟩
 obtain ⟨g0,g1⟩:=folCells_get fs _ f hf
 obtain ⟨q0,q1⟩:=hc _ f hf
 rcases Nat.mod_two_eq_zero_or_one j with h2 | h2
 ·have e2:j / 2*2=j:=by omega
  rw [e2] at g0 q0
  rw [q0,← hu,g0]
 ·have e2:j / 2*2+1=j:=by omega
  rw [e2] at g1
  rw [show o+j=o+j / 2*2+1 from by omega,q1,← hu,g1]
theorem folCells_one (fs:List (Int × Int)):∀ u∈folCells fs,u.oneCell'=true:=by
 intro u hu
 simp only [folCells,List.mem_flatMap] at hu
 obtain ⟨f,_,hf⟩:=hu
 simp at hf
 rcases hf with rfl | rfl <;> rfl
theorem folCells_set:∀ (fs:List (Int × Int)) (k:Nat) (d:Int × Int),((folCells fs).set (k*2) (.int .i64 d.1)).set (k*2+1) (.int .i64 d.2)=folCells (fs.set k d)
 | [],k,d=>by simp [folCells]
 | f :: fs,0,d=>by simp [folCells]
 | f :: fs,k+1,d=>by
   have e:folCells (f :: fs)=.int .i64 f.1 :: .int .i64 f.2 :: folCells fs:=rfl
   have e2:folCells ((f :: fs).set (k+1) d)=.int .i64 f.1 :: .int .i64 f.2 :: folCells (fs.set k d):=rfl
   rw [e,e2,← folCells_set fs k d,show (k+1)*2=k*2+1+1 from by omega]
   simp
theorem folCells_setHi {fs:List (Int × Int)} {k:Nat} {d:Int × Int} (v:Int) (h:fs[k]?=some d):(folCells fs).set (k*2+1) (.int .i64 v)=folCells (fs.set k (d.1,v)):=by
 induction fs generalizing k with
 | nil=>simp at h
 | cons f fs ih =>
   cases k with
   | zero =>
     simp at h
     subst h
     simp [folCells]
   | succ k =>
     have e:folCells (f :: fs)=.int .i64 f.1 :: .int .i64 f.2 :: folCells fs:=rfl
     have e2:folCells ((f :: fs).set (k+1) (d.1,v))=.int .i64 f.1 :: .int .i64 f.2 :: folCells (fs.set k (d.1,v)):=rfl
     rw [e,e2,← ih (by simpa using h),show (k+1)*2+1=k*2+1+1+1 from by omega]
     simp
theorem folCells_setLo {fs:List (Int × Int)} {k:Nat} {d:Int × Int} (v:Int) (h:fs[k]?=some d):(folCells fs).set (k*2) (.int .i64 v)=folCells (fs.set k (v,d.2)):=by
 induction fs generalizing k with
 | nil=>simp at h
 | cons f fs ih =>
   cases k with
   | zero =>
     simp at h
     subst h
     simp [folCells]
   | succ k =>
     have e:folCells (f :: fs)=.int .i64 f.1 :: .int .i64 f.2 :: folCells fs:=rfl
     have e2:folCells ((f :: fs).set (k+1) (v,d.2))=.int .i64 f.1 :: .int .i64 f.2 :: folCells (fs.set k (v,d.2)):=rfl
     rw [e,e2,← ih (by simpa using h),show (k+1)*2=k*2+1+1 from by omega]
     simp
def RetNar (o:Option (List (Int × Int))) (n:Nat) (w:World) (e:Ending) (w':World):Prop:=Below w.heap.size w w'∧match o with
 | none=>e=.returned (.tuple #[.slice none 0 0,.bool false])
 | some P=>∃ v,e=.returned (.tuple #[v,.bool true])∧w'.ownsRow w.heap.size 133 2 v n (folCells P)∧P.length=n
set_option maxRecDepth 100000 in
theorem p_narrowed (M:List ((Int × Int) × Nat)) (R:List Rcp) (P:List (Int × Int)) (S:List Sgt) (a:Acc) (A:Option Addr) (n c:Nat) (w:World) (hN:a.Rn≤1000000) (hN1:∀ r∈R,r.lv.length≤1000000∧(Lit.int .i64 r.src).wf=true)
 (hS1:∀ s∈S,(Lit.int .i64 s.leaf).wf=true∧0≤s.day∧s.day≤1000000) (hn:n≤1000000) (hPn:a.Pn≤100000) (hPA:a.PA=none→a.Pc=0) (hM1:∀ k i,getN M k=some i→i<a.Pn)
 (hm:MapS w a.bm (encM M)) (hr:Rcs w w.heap.size a.RA a.Rn R) (hp:Sq QF 2 w w.heap.size a.PA a.Pn P) (hs:Sgs w w.heap.size A n S) :
 Calls Tryz.prog 124 #[accV a,.slice A n c] w (RetNar (narL M R S P) a.Pn w):=by
 obtain ⟨⟨pA,pn,pc,rA,rn,rc,tA,tn,tc,sA,sn,sc⟩,kn,RA,Rn,Rc,SA,Sn,Sc,bm,TA,Tn,Tc,PA,Pn,Pc⟩:=a
 show Calls _ _ #[.agg #[.slice pA pn pc,.slice rA rn rc,.slice tA tn tc,.slice sA sn sc,.int .i64 kn,.slice RA Rn Rc,.slice SA Sn Sc,.map (some bm),.slice TA Tn Tc,.slice PA Pn Pc],_] _ (RetNar _ Pn _)
 have hPn':Pn≤100000:=hPn
 have HPA:Hid (PA=none→Pc=0):=by show _→_;exact hPA
 have HM1:Hid (∀ k i,getN M k=some i→i<Pn):=by show ∀ _,_;exact hM1
 have HSt:Hid (∀ (s:Sgt) (W:World),s∈S→Below w.heap.size w W→Calls Tryz.prog 68 #[.agg #[.slice pA pn pc,.slice rA rn rc,.slice tA tn tc,.slice sA sn sc,.int .i64 kn,.slice RA Rn Rc,.slice SA Sn Sc,.map (some bm),.slice TA Tn Tc,.slice PA Pn Pc],.agg #[.int .i64 s.pap,.int .i64 s.leaf],.int .i64 s.day] W fun e w'=>e=.returned (.agg #[.int .i64 (staySg M R s).1,.int .i64 (staySg M R s).2])∧Below W.heap.size W w'):=by
  show ∀ _,_
  intro s W hsS hW
  exact p_stay M R ⟨⟨pA,pn,pc,rA,rn,rc,tA,tn,tc,sA,sn,sc⟩,kn,RA,Rn,Rc,SA,Sn,Sc,bm,TA,Tn,Tc,PA,Pn,Pc⟩ s.pap s.leaf s.day W hN hN1 (hS1 s hsS).1 (hm.ext hW) (hr.now abR hW)
 have HP:Hid (Sq QF 2 w w.heap.size PA Pn P):=by show Sq _ _ _ _ _ _ _;exact hp
 have HS:=hd_ hs
 have HL:=hd_ hs.len
 have HLP:Hid (P.length=Pn):=by show _=_;exact hp.len
 have HS1:=hd_ hS1
 obtain ⟨o,ho⟩:∃ o,narL M R S P=o:=⟨_,rfl⟩
 rw [ho]
 have HO:=hd_ ho
 clear hm hr hp hs hN hN1 hPA hM1 hPn hS1 ho
 have hB0:Below w.heap.size w (w.alloc (.cells #[.slice pA pn pc,.slice rA rn rc,.slice tA tn tc,.slice sA sn sc,.int .i64 kn,.slice RA Rn Rc,.slice SA Sn Sc,.map (some bm),.slice TA Tn Tc,.slice PA Pn Pc] 115)):=by exact bel_
 go_enter Tryz.func124,Tryz.ntmps124
 go_wp2_with (go_at_call 156;refine (p_CloneSpan (folCells P) PA Pn Pc _ hPn' HPA.out (rd_of_fos (HP.out.now abF hB0)) (folCells_one _)).mono ?_;rintro e w1 ⟨v1,rfl,hb1,ho1⟩;obtain ⟨A1,c1,rfl,hcc⟩:=own_slice ho1)
 go_loopw [17] (fun i wr=>∃ (k:Nat) (P':List (Int × Int)),k≤n∧i=.int .i64 k∧narL M R (S.take k) P=some P'∧P'.length=Pn∧wr.ownsRow (w.heap.size+1) 133 2 (.slice A1 Pn c1) Pn (folCells P')∧Below w.heap.size w wr∧w.heap.size+1≤wr.heap.size∧BoxA wr w.heap.size 115 #[.slice pA pn pc,.slice rA rn rc,.slice tA tn tc,.slice sA sn sc,.int .i64 kn,.slice RA Rn Rc,.slice SA Sn Sc,.map (some bm),.slice TA Tn Tc,.slice PA Pn Pc]) (fun i _=>n - (intOf i).toNat)
 case atStart=>exact ⟨0,P,by omega,rfl,rfl,HLP.out,by simpa using ho1,hB0.trans (hb1.mono (by simp)),by have:=hb1.size;simpa using this,(BoxA.new w _ _).ext hb1⟩
 case round =>
  obtain ⟨k,P',hk,rfl,hnar,hPl,hown,hB,hsz,hbx⟩:=hrel
  have HNar:=hd_ hnar
  clear hnar
  by_cases hlt:k<n
  ·obtain ⟨b,o',s,rfl,hb,hx,a0,a1,a2,a3,a4,a5,a6⟩:=(Sq.ext HS.out abS hB lr_).at_ hlt
   have HX:=hd_ hx
   have hmem:=List.mem_of_getElem? hx
   have hd:=(HS1.out s hmem).2
   clear hx
   have hbr:b<wr.heap.size:=by omega
   have hbl:=hbx.lt
   have HNx:=hd_ (narL_succ HNar.out HX.out)
   have hback:=staySg_back (R:=R) (s:=s) HM1.out
   have hst:=fun W=>HSt.out s W hmem
   obtain ⟨⟨sp,sb⟩,hsg⟩:∃ st,staySg M R s=st:=⟨_,rfl⟩
   rw [hsg] at HNx hback
   simp only [hsg] at hst
   have HSG:=hd_ hst
   clear hsg hst
   have hce:=hbx.cell
   go_wp2_with fail
   obtain ⟨W5,hW5⟩:∃ W5,wr.alloc (.cells #[.int .i64 s.src,.int .i64 s.per,.int .i64 s.pap,.int .i64 s.leaf,.int .i64 s.day,.int .i64 s.kn,.int .i64 s.un] 70)=W5:=⟨_,rfl⟩
   rw [hW5]
   have hB5:Below wr.heap.size wr W5:=by rw [← hW5];exact (Below.refl _ _).alloc lr_ _
   have bS:BoxA W5 wr.heap.size 70 #[.int .i64 s.src,.int .i64 s.per,.int .i64 s.pap,.int .i64 s.leaf,.int .i64 s.day,.int .i64 s.kn,.int .i64 s.un]:=by rw [← hW5];exact BoxA.new _ _ _
   have bA:BoxA W5 w.heap.size 115 #[.slice pA pn pc,.slice rA rn rc,.slice tA tn tc,.slice sA sn sc,.int .i64 kn,.slice RA Rn Rc,.slice SA Sn Sc,.map (some bm),.slice TA Tn Tc,.slice PA Pn Pc]:=hbx.ext hB5
   have HB5:Below w.heap.size w W5:=bt_ hB hB5
   clear hW5 hce a0 a1 a2 a3 a4 a5 a6
   have cS:=bS.cell
   have cA:=bA.cell
   have zS:=bS.lt
   have zA:=bA.lt
   have zS2:wr.heap.size<W5.drew.heap.size:=zS
   have zA2:w.heap.size<W5.drew.heap.size:=zA
   refine wp_named2 fun f1 V1 hf1 hV1=>?_
   subst hV1
   refine wp_cut2 (fun a' W'=>∃ B9,a'={ tmps:=((((((f1.tmps.setIfInBounds 21 (.agg #[.slice pA pn pc,.slice rA rn rc,.slice tA tn tc,.slice sA sn sc,.int .i64 kn,.slice RA Rn Rc,.slice SA Sn Sc,.map (some bm),.slice TA Tn Tc,.slice PA Pn Pc])).setIfInBounds 22 (.agg #[.int .i64 s.src,.int .i64 s.per,.int .i64 s.pap,.int .i64 s.leaf,.int .i64 s.day,.int .i64 s.kn,.int .i64 s.un])).setIfInBounds 23 (.agg #[.int .i64 s.pap,.int .i64 s.leaf])).setIfInBounds 24 (.pointer (some ⟨wr.heap.size,4,none⟩))).setIfInBounds 25 (.int .i64 s.day)).setIfInBounds 26 (.agg #[.int .i64 sp,.int .i64 sb])).setIfInBounds 9 (.pointer (some ⟨B9,0,none⟩)),defers:=[] }∧BoxA W' B9 120 #[.int .i64 sp,.int .i64 sb]∧Below W5.heap.size W5 W'∧W5.heap.size≤B9) ?reg ?rest
   case reg =>
    subst hf1
    (refine wp_region_sink_lit (S:=S1 w.heap.size wr.heap.size #[.slice pA pn pc,.slice rA rn rc,.slice tA tn tc,.slice sA sn sc,.int .i64 kn,.slice RA Rn Rc,.slice SA Sn Sc,.map (some bm),.slice TA Tn Tc,.slice PA Pn Pc] #[.int .i64 s.src,.int .i64 s.per,.int .i64 s.pap,.int .i64 s.leaf,.int .i64 s.day,.int .i64 s.kn,.int .i64 s.un]) 7 (by kernel_rfl) rfl rfl (by kernel_rfl) (by kernel_rfl) ⟨bA.cell,bS.cell,zA,zS⟩ (fun hS=>?_);simp only [List.take_succ_cons,List.take_zero,List.reduceReplicate,Array.replicate_succ,Array.replicate_zero])
    (refine tk_ (i:=0) (v:=?_) rfl ?_ hS ?_;rotate_left;focus (intro w2 hw2;(try unfold S1 at hw2);go_split_ands;go_simp;first | done | with_reducible rfl);(try simp only [Act.put,pu1,pu2,pu3]))
    (refine tk_ (i:=1) (v:=?_) rfl ?_ hS ?_;rotate_left;focus (intro w2 hw2;(try unfold S1 at hw2);go_split_ands;go_simp;first | done | with_reducible rfl);(try simp only [Act.put,pu1,pu2,pu3]))
    (refine tk_ (i:=3) (v:=?_) rfl ?_ hS ?_;rotate_left;focus (intro w2 hw2;(try unfold S1 at hw2);go_split_ands;go_simp;first | done | with_reducible rfl);(try simp only [Act.put,pu1,pu2,pu3]))
    (refine tk_ (i:=4) (v:=?_) rfl ?_ hS ?_;rotate_left;focus (intro w2 hw2;(try unfold S1 at hw2);go_split_ands;go_simp;first | done | with_reducible rfl);(try simp only [Act.put,pu1,pu2,pu3]))
    have HB5d:Below w.heap.size w W5.drew:=HB5.drew
    have HW5:Below W5.heap.size W5 W5.drew:=(Below.refl _ _).drew
    refine rd_ [2,6] ?_
    refine AllReadyH.cons rfl (fun K hK=>?_) (AllReadyH.cons rfl (fun K hK=>?_) AllReadyH.nil)
    ·(go_simp;go_at_call 87;refine (p_folioOf s _).mono ?_;rintro e w6 ⟨rfl,hb6⟩;go_simp)
     have h6:Below W5.heap.size W5 w6:=HW5.trans hb6
     have H6:=bt_ HB5 h6
     refine hK.out _ _ (S1.ext hb6 hS) (fun hS=>?_)
     clear hK K
     (try simp only [Act.put,pu1,pu2,pu3])
     refine rd_ [5,6] ?_
     refine AllReadyH.cons rfl (fun K hK=>?_) (AllReadyH.cons rfl (fun K hK=>?_) AllReadyH.nil)
     ·(go_simp;go_at_call 68;refine (HSG.out _ H6).mono ?_;rintro e w7 ⟨rfl,hb7⟩;go_simp)
      have h7:Below W5.heap.size W5 w7:=bt_ h6 hb7
      refine hK.out _ _ (S1.ext hb7 hS) (fun hS=>?_)
      clear hK K
      (try simp only [Act.put,pu1,pu2,pu3])
      (refine rd_ [6] ?_;refine ah1 rfl fun K hK=>?_;(go_simp);refine hK.out _ _ (S1.ext ((Below.refl _ _).alloc lr_ _) hS) (fun hS=>?_);clear hK K;(try simp only [Act.put,pu1,pu2,pu3]))
      refine wpAnyH_done (by kernel_rfl) ?_ _
      simp only [sinkQ]
      have h8:=h7.size
      have b8:=BoxA.new w7 120 #[.int .i64 0,.int .i64 0]
      go_simp
      exact ⟨_,rfl,BoxA.new w7 _ _,h7.alloc h8 _,h8⟩
     ·go_simp
      refine hK.out _ _ (S1.ext ((Below.refl _ _).alloc lr_ _) hS) (fun hS=>?_)
      clear hK K
      (try simp only [Act.put,pu1,pu2,pu3])
      have b8:=BoxA.new w6 120 #[.int .i64 0,.int .i64 0]
      have h6a:Below W5.heap.size W5 (w6.alloc (.cells #[.int .i64 0,.int .i64 0] 120)):=h6.alloc h6.size _
      refine rd_ [5] ?_
      refine ah1 rfl fun K hK=>?_
      (go_simp;go_at_call 68;refine (HSG.out _ (H6.alloc H6.size _)).mono ?_;rintro e w7 ⟨rfl,hb7⟩;go_simp)
      have h7:Below W5.heap.size W5 w7:=bt_ h6a hb7
      have b9:=b8.ext hb7
      have h9:W5.heap.size≤w6.heap.size:=h6.size
      refine hK.out _ _ (S1.ext hb7 hS) (fun hS=>?_)
      clear hK K
      (try simp only [Act.put,pu1,pu2,pu3])
      refine wpAnyH_done (by kernel_rfl) ?_ _
      simp only [sinkQ]
      have c9:=b9.cell
      have z9:=b9.lt
      have f9:∀ j,w7.frozen? ⟨w6.heap.size,j,none⟩=false:=fun j=>by simp [World.frozen?,show w7.heap[w6.heap.size]?=_ from b9]
      go_simp
      exact ⟨_,rfl,(b9.set 0 _).set 1 _,(h7.setCell h9 _).setCell h9 _,h9⟩
    ·go_simp
     refine hK.out _ _ (S1.ext ((Below.refl _ _).alloc lr_ _) hS) (fun hS=>?_)
     clear hK K
     (try simp only [Act.put,pu1,pu2,pu3])
     have b7:BoxA (W5.drew.alloc (.cells #[.int .i64 0,.int .i64 0] 120)) W5.heap.size 120 #[.int .i64 0,.int .i64 0]:=BoxA.new W5.drew _ _
     have h5a:Below W5.heap.size W5 (W5.drew.alloc (.cells #[.int .i64 0,.int .i64 0] 120)):=HW5.alloc lr_ _
     refine rd_ [2] ?_
     refine ah1 rfl fun K hK=>?_
     (go_simp;go_at_call 87;refine (p_folioOf s _).mono ?_;rintro e w6 ⟨rfl,hb6⟩;go_simp)
     have b8:=b7.ext hb6
     have h6:Below W5.heap.size W5 w6:=bt_ h5a hb6
     have H6:=bt_ HB5 h6
     refine hK.out _ _ (S1.ext hb6 hS) (fun hS=>?_)
     clear hK K
     (try simp only [Act.put,pu1,pu2,pu3])
     refine rd_ [5] ?_
     refine ah1 rfl fun K hK=>?_
     (go_simp;go_at_call 68;refine (HSG.out _ H6).mono ?_;rintro e w7 ⟨rfl,hb7⟩;go_simp)
     have h7:Below W5.heap.size W5 w7:=bt_ h6 hb7
     have b9:=b8.ext hb7
     have h9:W5.heap.size≤W5.heap.size:=lr_
     refine hK.out _ _ (S1.ext hb7 hS) (fun hS=>?_)
     clear hK K
     (try simp only [Act.put,pu1,pu2,pu3])
     refine wpAnyH_done (by kernel_rfl) ?_ _
     simp only [sinkQ]
     have c9:=b9.cell
     have z9:=b9.lt
     have f9:∀ j,w7.frozen? ⟨W5.heap.size,j,none⟩=false:=fun j=>by simp [World.frozen?,show w7.heap[W5.heap.size]?=_ from b9]
     go_simp
     exact ⟨_,rfl,(b9.set 0 _).set 1 _,(h7.setCell h9 _).setCell h9 _,h9⟩
   case rest =>
    rintro a' W' ⟨B9,rfl,b9,hb9,hB9⟩
    subst hf1
    simp only [List.setIfInBounds_toArray,List.set_cons_zero,List.set_cons_succ]
    have hWr:Below wr.heap.size wr W':=bt_ hB5 hb9
    have hown':=own_ex hown hWr
    have bS':=bS.ext hb9
    have bA':=bA.ext hb9
    have hB':Below w.heap.size w W':=bt_ hB hWr
    have hsz':=hWr.size
    clear cS cA zS zA bS bA HSG zS2 zA2 hbx hown hB5 HB5 hb9 hWr hbl hbr
    have cS:=bS'.cell
    have c9:=b9.cell
    have zS:=bS'.lt
    have z9:=b9.lt
    by_cases hp:s.per=sp
    ·have hpd:(s.per != sp)=false:=by simpa using hp
     have HPe:=hd_ hp
     clear hp
     rcases hback with ⟨hb1,hb2⟩ | ⟨i,hi,hb2⟩
     ·have hf:narS (sp,sb) P' s.per s.day=some P':=by rw [narS,if_neg (fun h=>h.1 HPe.out),if_pos hb1]
      have hsb:decide (sb<0)=true:=by simpa using hb1
      clear hb1 hb2
      go_wp2
      go_roundw
      case rel=>exact ⟨k+1,P',by omega,by go_num,by rw [HNx.out];exact hf,hPl,hown',hB',by omega,bA'⟩
      case measure=>exact ms_
     ·have hb2:sb=(i:Int):=hb2
      have hsb:decide (sb<0)=false:=by simp;omega
      by_cases hz:s.per=0
      ·have hzd:(s.per == 0)=true:=by simpa using hz
       have HZ:=hd_ hz
       clear hz
       obtain ⟨g,cap,hv,hg0,hg1,_,_⟩:=own_shape2 hown' (by omega)
       simp only [Value.slice.injEq,true_and] at hv
       obtain ⟨rfl,rfl⟩:=hv
       obtain ⟨d,hdi⟩:∃ d,P'[i]?=some d:=⟨_,List.getElem?_eq_getElem (by omega)⟩
       have hgd:P'.getD i (0,0)=d:=by rw [List.getD_eq_getElem?_getD,hdi];rfl
       obtain ⟨q0,q1⟩:=folCells_get P' i d hdi
       have fz:=hown'.frozenAt
       replace q0:=(hown'.cellAt (i*2) (by omega)).trans q0
       replace q1:=(hown'.cellAt (i*2+1) (by omega)).trans q1
       have HDI:=hd_ hdi
       have HST:=hd_ (hown'.stored (i*2+1) (.int .i64 (min d.2 s.day))).1
       rw [folCells_setHi (min d.2 s.day) hdi] at HST
       have hu:=p_upTo g (i*2) d.1 d.2 s.day W' fz q0 q1
       have gl:W'.heap.size≤W'.heap.size:=lr_
       have b9':BoxA (W'.setCell ⟨g,i*2+1,none⟩ (.int .i64 (min d.2 s.day))) w.heap.size 115 #[.slice pA pn pc,.slice rA rn rc,.slice tA tn tc,.slice sA sn sc,.int .i64 kn,.slice RA Rn Rc,.slice SA Sn Sc,.map (some bm),.slice TA Tn Tc,.slice PA Pn Pc]:=bA'.other (by simp only;omega) _
       have hB2:Below w.heap.size w (W'.setCell ⟨g,i*2+1,none⟩ (.int .i64 (min d.2 s.day))):=hB'.setCell (by simp only;omega) _
       have hNS:narS (sp,sb) P' s.per s.day=if (d.1,min d.2 s.day).2<(d.1,min d.2 s.day).1 then none else some (P'.set i (d.1,min d.2 s.day)):=by
        rw [narS,if_neg (fun h=>h.1 HPe.out),if_neg (by show ¬ sb<0;omega)]
        rw [show (sp,sb).2.toNat=i from by show sb.toNat=i;omega,hgd,narD,if_pos HZ.out]
       have HNS:=hd_ hNS
       clear hNS hgd hdi
       by_cases hem:(d.1,min d.2 s.day).2<(d.1,min d.2 s.day).1
       ·have hed:decide ((d.1,min d.2 s.day).2<(d.1,min d.2 s.day).1)=true:=by simpa using hem
        have ho:o=none:=by rw [← HO.out];exact narL_none (k:=k+1) (by rw [HNx.out,HNS.out,if_pos hem])
        subst ho
        have HE:=hd_ hed
        clear hem hed
        go_wp2_with (first | (go_at_call 154;refine hu.mono ?_;rintro e w8 ⟨⟨v8,rfl⟩,rfl⟩) | (go_at_call 153;refine (p_empty_v (d.1,min d.2 s.day).1 (d.1,min d.2 s.day).2 true _ HE.out).mono ?_;rintro e w9 ⟨rfl,hb10⟩))
        go_ret2
        exact ⟨bt_ hB2 hb10,rfl⟩
       ·have hed:decide ((d.1,min d.2 s.day).2<(d.1,min d.2 s.day).1)=false:=by simpa using hem
        have hS2:narS (sp,sb) P' s.per s.day=some (P'.set i (d.1,min d.2 s.day)):=by rw [HNS.out,if_neg hem]
        have HS2:=hd_ hS2
        have HE:=hd_ hed
        clear hem hed hS2
        go_wp2_with (first | (go_at_call 154;refine hu.mono ?_;rintro e w8 ⟨⟨v8,rfl⟩,rfl⟩) | (go_at_call 153;refine (p_empty_v (d.1,min d.2 s.day).1 (d.1,min d.2 s.day).2 false _ HE.out).mono ?_;rintro e w9 ⟨rfl,hb10⟩))
        have hs10:=hb10.size
        go_roundw
        case rel=>exact ⟨k+1,P'.set i (d.1,min d.2 s.day),by omega,by go_num,by rw [HNx.out,HS2.out],by rw [List.length_set];exact hPl,own_ex HST.out hb10,bt_ hB2 hb10,by simp at hs10;omega,b9'.ext hb10⟩
        case measure=>exact ms_
      ·have hzd:(s.per == 0)=false:=by simpa using hz
       have HZ:=hd_ hz
       clear hz
       obtain ⟨g,cap,hv,hg0,hg1,_,_⟩:=own_shape2 hown' (by omega)
       simp only [Value.slice.injEq,true_and] at hv
       obtain ⟨rfl,rfl⟩:=hv
       obtain ⟨d,hdi⟩:∃ d,P'[i]?=some d:=⟨_,List.getElem?_eq_getElem (by omega)⟩
       have hgd:P'.getD i (0,0)=d:=by rw [List.getD_eq_getElem?_getD,hdi];rfl
       obtain ⟨q0,q1⟩:=folCells_get P' i d hdi
       have fz:=hown'.frozenAt
       replace q0:=(hown'.cellAt (i*2) (by omega)).trans q0
       replace q1:=(hown'.cellAt (i*2+1) (by omega)).trans q1
       have HDI:=hd_ hdi
       have HST:=hd_ (hown'.stored (i*2) (.int .i64 (max d.1 (s.day+1)))).1
       rw [folCells_setLo (max d.1 (s.day+1)) hdi] at HST
       have hu:=p_behind g (i*2) d.1 s.day W' hd.1 hd.2 fz q0
       have gl:W'.heap.size≤W'.heap.size:=lr_
       have b9':BoxA (W'.setCell ⟨g,i*2,none⟩ (.int .i64 (max d.1 (s.day+1)))) w.heap.size 115 #[.slice pA pn pc,.slice rA rn rc,.slice tA tn tc,.slice sA sn sc,.int .i64 kn,.slice RA Rn Rc,.slice SA Sn Sc,.map (some bm),.slice TA Tn Tc,.slice PA Pn Pc]:=bA'.other (by simp only;omega) _
       have hB2:Below w.heap.size w (W'.setCell ⟨g,i*2,none⟩ (.int .i64 (max d.1 (s.day+1)))):=hB'.setCell (by simp only;omega) _
       have hNS:narS (sp,sb) P' s.per s.day=if (max d.1 (s.day+1),d.2).2<(max d.1 (s.day+1),d.2).1 then none else some (P'.set i (max d.1 (s.day+1),d.2)):=by
        rw [narS,if_neg (fun h=>h.1 HPe.out),if_neg (by show ¬ sb<0;omega)]
        rw [show (sp,sb).2.toNat=i from by show sb.toNat=i;omega,hgd,narD,if_neg HZ.out]
       have HNS:=hd_ hNS
       clear hNS hgd hdi
       by_cases hem:(max d.1 (s.day+1),d.2).2<(max d.1 (s.day+1),d.2).1
       ·have hed:decide ((max d.1 (s.day+1),d.2).2<(max d.1 (s.day+1),d.2).1)=true:=by simpa using hem
        have ho:o=none:=by rw [← HO.out];exact narL_none (k:=k+1) (by rw [HNx.out,HNS.out,if_pos hem])
        subst ho
        have HE:=hd_ hed
        clear hem hed
        go_wp2_with (first | (go_at_call 152;refine hu.mono ?_;rintro e w8 ⟨⟨v8,rfl⟩,rfl⟩) | (go_at_call 153;refine (p_empty_v (max d.1 (s.day+1),d.2).1 (max d.1 (s.day+1),d.2).2 true _ HE.out).mono ?_;rintro e w9 ⟨rfl,hb10⟩))
        go_ret2
        exact ⟨bt_ hB2 hb10,rfl⟩
       ·have hed:decide ((max d.1 (s.day+1),d.2).2<(max d.1 (s.day+1),d.2).1)=false:=by simpa using hem
        have hS2:narS (sp,sb) P' s.per s.day=some (P'.set i (max d.1 (s.day+1),d.2)):=by rw [HNS.out,if_neg hem]
        have HS2:=hd_ hS2
        have HE:=hd_ hed
        clear hem hed hS2
        go_wp2_with (first | (go_at_call 152;refine hu.mono ?_;rintro e w8 ⟨⟨v8,rfl⟩,rfl⟩) | (go_at_call 153;refine (p_empty_v (max d.1 (s.day+1),d.2).1 (max d.1 (s.day+1),d.2).2 false _ HE.out).mono ?_;rintro e w9 ⟨rfl,hb10⟩))
        have hs10:=hb10.size
        go_roundw
        case rel=>exact ⟨k+1,P'.set i (max d.1 (s.day+1),d.2),by omega,by go_num,by rw [HNx.out,HS2.out],by rw [List.length_set];exact hPl,own_ex HST.out hb10,bt_ hB2 hb10,by simp at hs10;omega,b9'.ext hb10⟩
        case measure=>exact ms_
    ·have hpd:(s.per != sp)=true:=by simpa using hp
     have HPe:=hd_ hp
     clear hp
     by_cases hz:s.per=0
     ·have hzd:(s.per == 0)=true:=by simpa using hz
      have hzn:(s.per != 0)=false:=by simpa using hz
      have HZ:=hd_ hz
      clear hz
      rcases hback with ⟨hb1,hb2⟩ | ⟨i,hi,hb2⟩
      ·have hf:narS (sp,sb) P' s.per s.day=none:=by rw [narS,if_pos ⟨HPe.out,.inr hb1⟩]
       have hsb:decide (sb<0)=true:=by simpa using hb1
       clear hb1 hb2
       have ho:o=none:=by rw [← HO.out];exact narL_none (k:=k+1) (by rw [HNx.out];exact hf)
       subst ho
       go_wp2
       go_ret2
       exact ⟨hB',rfl⟩
      ·have hb2:sb=(i:Int):=hb2
       have hsb:decide (sb<0)=false:=by simp;omega
       obtain ⟨g,cap,hv,hg0,hg1,_,_⟩:=own_shape2 hown' (by omega)
       simp only [Value.slice.injEq,true_and] at hv
       obtain ⟨rfl,rfl⟩:=hv
       obtain ⟨d,hdi⟩:∃ d,P'[i]?=some d:=⟨_,List.getElem?_eq_getElem (by omega)⟩
       have hgd:P'.getD i (0,0)=d:=by rw [List.getD_eq_getElem?_getD,hdi];rfl
       obtain ⟨q0,q1⟩:=folCells_get P' i d hdi
       have fz:=hown'.frozenAt
       replace q0:=(hown'.cellAt (i*2) (by omega)).trans q0
       replace q1:=(hown'.cellAt (i*2+1) (by omega)).trans q1
       have HDI:=hd_ hdi
       have HST:=hd_ (hown'.stored (i*2+1) (.int .i64 (min d.2 s.day))).1
       rw [folCells_setHi (min d.2 s.day) hdi] at HST
       have hu:=p_upTo g (i*2) d.1 d.2 s.day W' fz q0 q1
       have gl:W'.heap.size≤W'.heap.size:=lr_
       have b9':BoxA (W'.setCell ⟨g,i*2+1,none⟩ (.int .i64 (min d.2 s.day))) w.heap.size 115 #[.slice pA pn pc,.slice rA rn rc,.slice tA tn tc,.slice sA sn sc,.int .i64 kn,.slice RA Rn Rc,.slice SA Sn Sc,.map (some bm),.slice TA Tn Tc,.slice PA Pn Pc]:=bA'.other (by simp only;omega) _
       have hB2:Below w.heap.size w (W'.setCell ⟨g,i*2+1,none⟩ (.int .i64 (min d.2 s.day))):=hB'.setCell (by simp only;omega) _
       have hNS:narS (sp,sb) P' s.per s.day=if (d.1,min d.2 s.day).2<(d.1,min d.2 s.day).1 then none else some (P'.set i (d.1,min d.2 s.day)):=by
        rw [narS,if_neg (fun h=>h.2.elim (fun h=>h HZ.out) fun h=>by simp only at h;omega),if_neg (by show ¬ sb<0;omega)]
        rw [show (sp,sb).2.toNat=i from by show sb.toNat=i;omega,hgd,narD,if_pos HZ.out]
       have HNS:=hd_ hNS
       clear hNS hgd hdi
       by_cases hem:(d.1,min d.2 s.day).2<(d.1,min d.2 s.day).1
       ·have hed:decide ((d.1,min d.2 s.day).2<(d.1,min d.2 s.day).1)=true:=by simpa using hem
        have ho:o=none:=by rw [← HO.out];exact narL_none (k:=k+1) (by rw [HNx.out,HNS.out,if_pos hem])
        subst ho
        have HE:=hd_ hed
        clear hem hed
        go_wp2_with (first | (go_at_call 154;refine hu.mono ?_;rintro e w8 ⟨⟨v8,rfl⟩,rfl⟩) | (go_at_call 153;refine (p_empty_v (d.1,min d.2 s.day).1 (d.1,min d.2 s.day).2 true _ HE.out).mono ?_;rintro e w9 ⟨rfl,hb10⟩))
        go_ret2
        exact ⟨bt_ hB2 hb10,rfl⟩
       ·have hed:decide ((d.1,min d.2 s.day).2<(d.1,min d.2 s.day).1)=false:=by simpa using hem
        have hS2:narS (sp,sb) P' s.per s.day=some (P'.set i (d.1,min d.2 s.day)):=by rw [HNS.out,if_neg hem]
        have HS2:=hd_ hS2
        have HE:=hd_ hed
        clear hem hed hS2
        go_wp2_with (first | (go_at_call 154;refine hu.mono ?_;rintro e w8 ⟨⟨v8,rfl⟩,rfl⟩) | (go_at_call 153;refine (p_empty_v (d.1,min d.2 s.day).1 (d.1,min d.2 s.day).2 false _ HE.out).mono ?_;rintro e w9 ⟨rfl,hb10⟩))
        have hs10:=hb10.size
        go_roundw
        case rel=>exact ⟨k+1,P'.set i (d.1,min d.2 s.day),by omega,by go_num,by rw [HNx.out,HS2.out],by rw [List.length_set];exact hPl,own_ex HST.out hb10,bt_ hB2 hb10,by simp at hs10;omega,b9'.ext hb10⟩
        case measure=>exact ms_
     ·have hzn:(s.per != 0)=true:=by simpa using hz
      have hf:narS (sp,sb) P' s.per s.day=none:=by rw [narS,if_pos ⟨HPe.out,.inl hz⟩]
      clear hz
      have ho:o=none:=by rw [← HO.out];exact narL_none (k:=k+1) (by rw [HNx.out];exact hf)
      subst ho
      go_wp2
      go_ret2
      exact ⟨hB',rfl⟩
  ·have hkn:Hid (k=n):=by show _=_;omega
   have ho:o=some P':=by
    have:=HNar.out
    rw [List.take_of_length_le (by rw [HL.out,hkn.out];exact lr_)] at this
    rw [← HO.out,this]
   subst ho
   go_wp2
   go_ret2
   exact ⟨hB,_,rfl,own_dn hown (Nat.le_succ _),hPl⟩
structure AccR (w:World) (a:Acc) (M:List ((Int × Int) × Nat)) (R:List Rcp) (P:List (Int × Int)):Prop where
 m:MapS w a.bm (encM M)
 r:Rcs w w.heap.size a.RA a.Rn R
 p:Sq QF 2 w w.heap.size a.PA a.Pn P
 nR:a.Rn≤1000000
 cR:a.Rn≤a.Rc∧a.Rc≤maxLen
 okR:∀ r∈R,r.lv.length≤1000000∧(Lit.int .i64 r.src).wf=true∧∀ x∈r.lv,(Lit.int .i64 x).wf=true
 nP:a.Pn≤100000
 aP:a.PA=none→a.Pc=0
 mP:∀ k i,getN M k=some i→i<a.Pn
theorem AccR.now {w w':World} {a:Acc} {M:List ((Int × Int) × Nat)} {R:List Rcp} {P:List (Int × Int)} (h:AccR w a M R P) (hb:Below w.heap.size w w'):AccR w' a M R P :=
 ⟨h.m.ext hb,h.r.now abR hb,h.p.now abF hb,h.nR,h.cR,h.okR,h.nP,h.aP,h.mP⟩
def sgsOk (S:List Sgt):Prop:=∀ s∈S,(Lit.int .i64 s.leaf).wf=true∧0≤s.day∧s.day≤1000000
theorem p_contradict (M:List ((Int × Int) × Nat)) (R:List Rcp) (P:List (Int × Int)) (S:List Sgt) (a:Acc) (A:Option Addr) (n c:Nat) (w:World) (h:AccR w a M R P) (hS:sgsOk S) (hn:n≤1000000) (hs:Sgs w w.heap.size A n S) :
 Calls Tryz.prog 82 #[accV a,.slice A n c] w fun e w'=>e=.returned (.bool (narL M R S P).isNone)∧Below w.heap.size w w':=by
 obtain ⟨⟨pA,pn,pc,rA,rn,rc,tA,tn,tc,sA,sn,sc⟩,kn,RA,Rn,Rc,SA,Sn,Sc,bm,TA,Tn,Tc,PA,Pn,Pc⟩:=a
 show Calls _ _ #[.agg #[.slice pA pn pc,.slice rA rn rc,.slice tA tn tc,.slice sA sn sc,.int .i64 kn,.slice RA Rn Rc,.slice SA Sn Sc,.map (some bm),.slice TA Tn Tc,.slice PA Pn Pc],_] _ _
 obtain ⟨o,ho⟩:∃ o,narL M R S P=o:=⟨_,rfl⟩
 have HN:Hid (∀ W:World,Below w.heap.size w W→Calls Tryz.prog 124 #[.agg #[.slice pA pn pc,.slice rA rn rc,.slice tA tn tc,.slice sA sn sc,.int .i64 kn,.slice RA Rn Rc,.slice SA Sn Sc,.map (some bm),.slice TA Tn Tc,.slice PA Pn Pc],.slice A n c] W (RetNar o Pn W)):=by
  show ∀ _,_
  intro W hW
  have hk:=h.now hW
  rw [← ho]
  exact p_narrowed M R P S ⟨⟨pA,pn,pc,rA,rn,rc,tA,tn,tc,sA,sn,sc⟩,kn,RA,Rn,Rc,SA,Sn,Sc,bm,TA,Tn,Tc,PA,Pn,Pc⟩ A n c W hk.nR (fun r hr=>⟨(hk.okR r hr).1,(hk.okR r hr).2.1⟩) hS hn hk.nP hk.aP hk.mP hk.m hk.r hk.p (hs.now abS hW)
 rw [ho]
 clear ho h hS hs
 have hB0:Below w.heap.size w (w.alloc (.cells #[.slice pA pn pc,.slice rA rn rc,.slice tA tn tc,.slice sA sn sc,.int .i64 kn,.slice RA Rn Rc,.slice SA Sn Sc,.map (some bm),.slice TA Tn Tc,.slice PA Pn Pc] 115)):=by exact bel_
 cases o with
 | none =>
   go_enter Tryz.func82,Tryz.ntmps82
   go_wp2_with (go_at_call 124;refine (HN.out _ hB0).mono ?_;rintro e w1 ⟨hb1,rfl⟩)
   go_ret
   exact ⟨rfl,bt_ hB0 hb1⟩
 | some P' =>
   go_enter Tryz.func82,Tryz.ntmps82
   go_wp2_with (go_at_call 124;refine (HN.out _ hB0).mono ?_;rintro e w1 ⟨hb1,v1,rfl,_,_⟩)
   go_ret
   exact ⟨rfl,bt_ hB0 hb1⟩
def whereS (st:Int × Int) (P:List (Int × Int)) (day:Int):List Int :=
 if st.2<0∨day<(P.getD st.2.toNat (0,0)).1 then [st.1] else if (P.getD st.2.toNat (0,0)).2≤day then [0] else [0,st.1]
def stayP (M:List ((Int × Int) × Nat)) (R:List Rcp) (pap leaf day:Int):Int × Int:=((stayF M R pap leaf day).1,(stayF M R pap leaf day).2.1)
theorem stayP_back {M:List ((Int × Int) × Nat)} {R:List Rcp} {pap leaf day:Int} {n:Nat} (hM:∀ k i,getN M k=some i→i<n):(stayP M R pap leaf day).2=-1∨∃ i:Nat,i<n∧(stayP M R pap leaf day).2=(i:Int):=by
 rcases stayL_back M leaf day (R.filter (isOfB pap leaf)) with h | ⟨k,i,hg,h⟩
 ·exact .inl h
 ·exact .inr ⟨i,hM k i hg,h⟩
theorem own_new (w:World) (t:TypeId) (cs:Array Value) (n:Nat) (hs:cs.size=n) (hn:n≤maxLen):(w.alloc (.cells cs t)).ownsRow w.heap.size t 1 (.slice (some ⟨w.heap.size,0,none⟩) n n) n cs.toList:=by
 refine ⟨by simpa using hs,.inr ⟨w.heap.size,n,cs,rfl,lr_,World.alloc_heap_new w _,lr_,hn,by omega,?_⟩⟩
 rw [List.take_of_length_le]
 simp [hs]
set_option maxRecDepth 10000 in
theorem p_where (M:List ((Int × Int) × Nat)) (R:List Rcp) (P:List (Int × Int)) (a:Acc) (pap leaf day:Int) (w:World) (h:AccR w a M R P) (hwl:(Lit.int .i64 leaf).wf=true) :
 Calls Tryz.prog 74 #[accV a,.agg #[.int .i64 pap,.int .i64 leaf],.int .i64 day] w (RetO (whereS (stayP M R pap leaf day) P day) w):=by
 obtain ⟨⟨pA,pn,pc,rA,rn,rc,tA,tn,tc,sA,sn,sc⟩,kn,RA,Rn,Rc,SA,Sn,Sc,bm,TA,Tn,Tc,PA,Pn,Pc⟩:=a
 show Calls _ _ #[.agg #[.slice pA pn pc,.slice rA rn rc,.slice tA tn tc,.slice sA sn sc,.int .i64 kn,.slice RA Rn Rc,.slice SA Sn Sc,.map (some bm),.slice TA Tn Tc,.slice PA Pn Pc],_,_] _ _
 have hback:=stayP_back (M:=M) (R:=R) (pap:=pap) (leaf:=leaf) (day:=day) h.mP
 obtain ⟨⟨sp,sb⟩,hst⟩:∃ st,stayP M R pap leaf day=st:=⟨_,rfl⟩
 have HST:Hid (∀ W:World,Below w.heap.size w W→Calls Tryz.prog 68 #[.agg #[.slice pA pn pc,.slice rA rn rc,.slice tA tn tc,.slice sA sn sc,.int .i64 kn,.slice RA Rn Rc,.slice SA Sn Sc,.map (some bm),.slice TA Tn Tc,.slice PA Pn Pc],.agg #[.int .i64 pap,.int .i64 leaf],.int .i64 day] W fun e w'=>e=.returned (.agg #[.int .i64 sp,.int .i64 sb])∧Below W.heap.size W w'):=by
  show ∀ _,_
  intro W hW
  have hk:=h.now hW
  have:=p_stay M R ⟨⟨pA,pn,pc,rA,rn,rc,tA,tn,tc,sA,sn,sc⟩,kn,RA,Rn,Rc,SA,Sn,Sc,bm,TA,Tn,Tc,PA,Pn,Pc⟩ pap leaf day W hk.nR (fun r hr=>⟨(hk.okR r hr).1,(hk.okR r hr).2.1⟩) hwl hk.m hk.r
  have e1:(stayF M R pap leaf day).1=sp:=congrArg Prod.fst hst
  have e2:(stayF M R pap leaf day).2.1=sb:=congrArg Prod.snd hst
  rw [e1,e2] at this
  exact this
 rw [hst] at hback ⊢
 have HP:Hid (Sq QF 2 w w.heap.size PA Pn P):=by show Sq _ _ _ _ _ _ _;exact h.p
 have hPn:Pn≤100000:=h.nP
 clear hst h
 have hmx:2≤maxLen:=by decide
 have hB0:Below w.heap.size w ((w.alloc (.cells #[.slice pA pn pc,.slice rA rn rc,.slice tA tn tc,.slice sA sn sc,.int .i64 kn,.slice RA Rn Rc,.slice SA Sn Sc,.map (some bm),.slice TA Tn Tc,.slice PA Pn Pc] 115)).alloc (.cells #[.int .i64 pap,.int .i64 leaf] 48)):=by exact bel_
 have HB0:=hd_ hB0
 clear hB0
 rcases hback with hb | ⟨i,hi,hb⟩
 ·have hb:sb=-1:=hb
  subst hb
  have hres:whereS (sp,-1) P day=[sp]:=by rw [whereS,if_pos (.inl (show (-1:Int)<0 by decide))]
  rw [hres]
  go_enter Tryz.func74,Tryz.ntmps74
  go_wp2_with (go_at_call 68;refine (HST.out _ HB0.out).mono ?_;rintro e w1 ⟨rfl,hb1⟩;have HB1:=bt_ HB0.out hb1;have hs1:=HB1.size)
  go_ret
  have HO1:=own_new (w1.alloc (.cells #[.int .i64 sp,.int .i64 (-1)] 120)) 3 #[.int .i64 sp] 1 rfl (by omega)
  simp only [World.size_alloc] at HO1
  exact ⟨_,rfl,by exact bel_,own_dn HO1 (show w.heap.size≤w1.heap.size+1 by omega)⟩
 ·have hb:sb=(i:Int):=hb
  subst hb
  obtain ⟨d,hdi⟩:∃ d,P[i]?=some d:=⟨_,List.getElem?_eq_getElem (by rw [HP.out.len];exact hi)⟩
  have hgd:P.getD ((i:Int)).toNat (0,0)=d:=by rw [List.getD_eq_getElem?_getD,Int.toNat_natCast,hdi];rfl
  rw [whereS]
  simp only [hgd]
  clear hgd
  have hnn:¬ ((i:Int)<0):=by omega
  obtain ⟨b,o,d',rfl,hbb,hd',q0,q1⟩:=HP.out.at_ hi
  obtain rfl:d=d':=Option.some.inj (hdi.symm.trans hd')
  clear hdi hd'
  have HB1:Hid (∀ w1,Below ((w.alloc (.cells #[.slice pA pn pc,.slice rA rn rc,.slice tA tn tc,.slice sA sn sc,.int .i64 kn,.slice RA Rn Rc,.slice SA Sn Sc,.map (some bm),.slice TA Tn Tc,.slice (some ⟨b,o,none⟩) Pn Pc] 115)).alloc (.cells #[.int .i64 pap,.int .i64 leaf] 48)).heap.size ((w.alloc (.cells #[.slice pA pn pc,.slice rA rn rc,.slice tA tn tc,.slice sA sn sc,.int .i64 kn,.slice RA Rn Rc,.slice SA Sn Sc,.map (some bm),.slice TA Tn Tc,.slice (some ⟨b,o,none⟩) Pn Pc] 115)).alloc (.cells #[.int .i64 pap,.int .i64 leaf] 48)) w1→w1.cell? ⟨b,o+i*2,none⟩=some (.int .i64 d.1)∧w1.cell? ⟨b,o+i*2+1,none⟩=some (.int .i64 d.2)):=by
   show ∀ _,_
   intro w1 hb1
   have:=HB0.out.trans (hb1.mono (by simp;omega))
   exact ⟨(this.cell (p:=⟨b,_,none⟩) hbb).trans q0,(this.cell (p:=⟨b,_,none⟩) hbb).trans q1⟩
  by_cases c1:day<d.1
  ·have hres:(if (i:Int)<0∨day<d.1 then [sp] else if d.2≤day then [0] else [0,sp])=[sp]:=if_pos (.inr c1)
   rw [hres]
   go_enter Tryz.func74,Tryz.ntmps74
   go_wp2_with (go_at_call 68;refine (HST.out _ HB0.out).mono ?_;rintro e w1 ⟨rfl,hb1⟩;obtain ⟨u0,u1⟩:=HB1.out _ hb1;obtain ⟨hc1,hf1⟩:=bcell hb1;have HB2:=bt_ HB0.out hb1;have hs1:=HB2.size;have hs2:=hb1.size;have hz1:w.heap.size<w1.heap.size:=(by simp at hs2;omega);have hbl:=Nat.lt_of_lt_of_le hbb hs1)
   go_ret
   have HO1:=own_new (w1.alloc (.cells #[.int .i64 sp,.int .i64 (i:Int)] 120)) 3 #[.int .i64 sp] 1 rfl (by omega)
   simp only [World.size_alloc] at HO1
   exact ⟨_,rfl,by exact bel_,own_dn HO1 (show w.heap.size≤w1.heap.size+1 by omega)⟩
  ·by_cases c2:d.2≤day
   ·have hres:(if (i:Int)<0∨day<d.1 then [sp] else if d.2≤day then [0] else [0,sp])=[0]:=by rw [if_neg (fun h=>h.elim hnn c1),if_pos c2]
    rw [hres]
    go_enter Tryz.func74,Tryz.ntmps74
    go_wp2_with (go_at_call 68;refine (HST.out _ HB0.out).mono ?_;rintro e w1 ⟨rfl,hb1⟩;obtain ⟨u0,u1⟩:=HB1.out _ hb1;obtain ⟨hc1,hf1⟩:=bcell hb1;have HB2:=bt_ HB0.out hb1;have hs1:=HB2.size;have hs2:=hb1.size;have hz1:w.heap.size<w1.heap.size:=(by simp at hs2;omega);have hbl:=Nat.lt_of_lt_of_le hbb hs1)
    go_ret
    have HO1:=own_new (w1.alloc (.cells #[.int .i64 sp,.int .i64 (i:Int)] 120)) 3 #[.int .i64 0] 1 rfl (by omega)
    simp only [World.size_alloc] at HO1
    exact ⟨_,rfl,by exact bel_,own_dn HO1 (show w.heap.size≤w1.heap.size+1 by omega)⟩
   ·have hres:(if (i:Int)<0∨day<d.1 then [sp] else if d.2≤day then [0] else [0,sp])=[0,sp]:=by rw [if_neg (fun h=>h.elim hnn c1),if_neg c2]
    rw [hres]
    go_enter Tryz.func74,Tryz.ntmps74
    go_wp2_with (go_at_call 68;refine (HST.out _ HB0.out).mono ?_;rintro e w1 ⟨rfl,hb1⟩;obtain ⟨u0,u1⟩:=HB1.out _ hb1;obtain ⟨hc1,hf1⟩:=bcell hb1;have HB2:=bt_ HB0.out hb1;have hs1:=HB2.size;have hs2:=hb1.size;have hz1:w.heap.size<w1.heap.size:=(by simp at hs2;omega);have hbl:=Nat.lt_of_lt_of_le hbb hs1)
    go_ret
    have HO1:=own_new (w1.alloc (.cells #[.int .i64 sp,.int .i64 (i:Int)] 120)) 3 #[.int .i64 0,.int .i64 sp] 2 rfl (by omega)
    simp only [World.size_alloc] at HO1
    exact ⟨_,rfl,by exact bel_,own_dn HO1 (show w.heap.size≤w1.heap.size+1 by omega)⟩
end Go.Proofs.YtmcmbicapdcfmaaGreat
