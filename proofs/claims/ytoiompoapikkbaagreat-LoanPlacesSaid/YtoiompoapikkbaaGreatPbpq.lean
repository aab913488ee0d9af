/- Layer 2 of the texts that LoanPlaces takes: Pbpq. -/
import Derived.Test.YtoiompoapikkbaaGreatPboq
import Derived.Test.YtoiompoapikkbaaGreatPbnq
set_option linter.unusedVariables false
set_option linter.unusedSimpArgs false
set_option maxHeartbeats 16000000
namespace Go.Proofs.YtoiompoapikkbaaGreat
open Go.RowKit Go.Maps
theorem led_bor {l:Led} (h:ledB l=true):(∀ r∈l.rc,0≤r.day)∧∀ r∈l.rc,r.bor≠0:=by
 refine ⟨fun r hr=>((led_ok h).rc r hr).2.2.2.1,fun r hr=>?_⟩
 simp only [ledB,Bool.and_eq_true] at h
 have h5:=val_all h.2.1 r hr
 simp only [Rcp.okB,withinB,Bool.and_eq_true,decide_eq_true_eq] at h5
 omega
def byL (l:Led) (kn:Int):List (Int × Int):=(List.range l.rt.length).map (byR l (tellK l kn l.rt.length) kn)
theorem byL_len (l:Led) (kn:Int):(byL l kn).length=l.rt.length:=by simp [byL]
theorem nar_led {l:Led} (h:ledB l=true) (kn:Int) (S:List Sgt):narL (opnL l kn).M (cntR l kn) S (opnL l kn).P=if (refL l (tellK l kn l.rt.length) kn S (byL l kn)).2=true then some (refL l (tellK l kn l.rt.length) kn S (byL l kn)).1 else none:=by
 rw [nar_all l kn (led_bor h).1 (led_bor h).2,opn_tell,opn_days]
 rfl
theorem set_ref {l:Led} (h:ledB l=true) (kn:Int):setE l kn=if (firstP (refD l (tellK l kn l.rt.length) kn) l.rc).isSome=true then 25 else if (refL l (tellK l kn l.rt.length) kn (cntS l kn) (byL l kn)).2=true then 0 else 27:=by
 rw [setE,dbl_first h,nar_led h]
 cases firstP (refD l (tellK l kn l.rt.length) kn) l.rc with
 | some p=>rfl
 | none =>
   cases hb:(refL l (tellK l kn l.rt.length) kn (cntS l kn) (byL l kn)).2 <;> simp
theorem setP_ref {l:Led} (h:ledB l=true) (kn:Int) (h2:(refL l (tellK l kn l.rt.length) kn (cntS l kn) (byL l kn)).2=true):setP l kn=(refL l (tellK l kn l.rt.length) kn (cntS l kn) (byL l kn)).1:=by
 rw [setP,nar_led h,if_pos h2]
 rfl
section
variable {P:Program} {o:Oper} {Q:Exit→Act→World→Prop}
theorem wp_region_bheld {id:Nat} {a:Act} {w:World} {l:List Oper} (n:Nat) (hm:P.follows .mixedOrders=true) (hn:l.length=n)
 (h:Below w.heap.size w w.drew→wpAnyH P .any l.toArray Q (fun V=>Below w.heap.size w V) n (Array.replicate n false) a w.drew):(Code.region id l.toArray true).wp P Q a w :=
 wp_region_held_lit (S:=fun V=>Below w.heap.size w V) n hm hn ((Below.refl _ _).drew) h
end
theorem byR_false {l:Led} {T:List Bool} {kn:Int} {i:Nat} (h:T[i]?=some false):byR l T kn i=(0,100000):=by
 rw [byR,h]
theorem byR_true {l:Led} {kn:Int} {i:Nat} {t:Rtn} (hT:(tellK l kn l.rt.length)[i]?=some true) (ht:l.rt[i]?=some t):∃ ix r,rcIx l.rc t.rcp kn=some ix∧l.rc[ix]?=some r∧byR l (tellK l kn l.rt.length) kn i=(max t.lo (r.day+1),l.rc.foldl (refHi kn r t.lv) t.hi):=by
 have h1:(opnK kn (cntR l kn) l.rt l.rt.length l.rt.length).T[i]?=some true:=by rw [tell_opn l kn _ lr_];exact hT
 obtain ⟨r,hr,-⟩:=opn_P kn (cntR l kn) l.rt l.rt.length lr_ i t h1 ht
 have hr2:=hr
 rw [findR_cnt] at hr2
 obtain ⟨ix,hix,hrc⟩:=Option.bind_eq_some_iff.1 hr2
 exact ⟨ix,r,hix,hrc,by rw [byR,hT,ht];simp only [hr]⟩
theorem r_byReceipts (l:Led) (v:Vw) (i:Nat) (w:World) (hl:LedOk l) (hTt:v.Tn=v.x.tn) (hd:LedIn w w.heap.size v.x l) (hT:Sq QB 1 w w.heap.size v.TA v.Tn (tellK l v.kn l.rt.length)) (hi:i<l.rt.length) :
 Calls Tryz.prog 192 #[vwV v,.int .i64 i] w fun e w'=>e=.returned (.agg #[.int .i64 (byR l (tellK l v.kn l.rt.length) v.kn i).1,.int .i64 (byR l (tellK l v.kn l.rt.length) v.kn i).2])∧Below w.heap.size w w':=by
 have hlen:i<(tellK l v.kn l.rt.length).length:=by rw [tellK_len];exact hi
 obtain ⟨t,ht⟩:∃ t,l.rt[i]?=some t:=⟨_,List.getElem?_eq_getElem hi⟩
 cases hb:(tellK l v.kn l.rt.length)[i] with
 | false =>
   have h1:(tellK l v.kn l.rt.length)[i]?=some false:=by rw [List.getElem?_eq_getElem hlen,hb]
   rw [byR_false h1]
   exact r_byReceipts0 l v _ i w (by have h:=hd.t.len;have h2:=hl.tn;omega) hT h1
 | true =>
   have h1:(tellK l v.kn l.rt.length)[i]?=some true:=by rw [List.getElem?_eq_getElem hlen,hb]
   obtain ⟨ix,r,hix,hrc,he⟩:=byR_true h1 ht
   rw [he]
   exact r_byReceipts1 l v _ i ix t r w hl hTt hd hT h1 ht hix hrc
theorem refL_snoc (l:Led) (T:List Bool) (kn:Int) (s:Sgt):∀ (S:List Sgt) (D:List (Int × Int)),refL l T kn (S ++ [s]) D=((refN l T kn (refL l T kn S D).1 s).1,(refL l T kn S D).2 && (refN l T kn (refL l T kn S D).1 s).2)
 | [],D=>by simp [refL]
 | x :: S,D=>by
   rw [List.cons_append,refL,refL_snoc l T kn s S,refL]
   simp only [Bool.and_assoc]
theorem refN_len (l:Led) (T:List Bool) (kn:Int) (D:List (Int × Int)) (s:Sgt):(refN l T kn D s).1.length=D.length:=by
 unfold refN
 split
 ·rfl
 ·split
  ·rfl
  ·split
   ·rfl
   ·split
    ·rw [List.length_set]
    ·split
     ·rw [List.length_set]
     ·rfl
theorem refL_len (l:Led) (T:List Bool) (kn:Int):∀ (S:List Sgt) (D:List (Int × Int)),(refL l T kn S D).1.length=D.length
 | [],D=>rfl
 | s :: S,D=>by rw [refL];exact (refL_len l T kn S _).trans (refN_len l T kn D s)
def byK (l:Led) (kn:Int) (k:Nat):List (Int × Int):=(List.range k).map (byR l (tellK l kn l.rt.length) kn)
theorem byK_succ (l:Led) (kn:Int) (k:Nat):byK l kn (k+1)=byK l kn k ++ [byR l (tellK l kn l.rt.length) kn k]:=by
 rw [byK,List.range_succ,List.map_append];rfl
theorem byK_len (l:Led) (kn:Int) (k:Nat):(byK l kn k).length=k:=by simp [byK]
set_option maxRecDepth 100000 in
theorem r_days (l:Led) (v:Vw) (I:List Int) (S:List Sgt) (A:Option Addr) (m c:Nat) (w:World) (hl:LedOk l) (hTt:v.Tn=v.x.tn) (hd:LedIn w w.heap.size v.x l) (hT:Sq QB 1 w w.heap.size v.TA v.Tn (tellK l v.kn l.rt.length)) (hm:m≤1000000) (hI:Is w w.heap.size A m I) (h0:∀ i∈I,0≤i) (hIS:I.map (fun i=>l.sg[i.toNat]?)=S.map some) :
 Calls Tryz.prog 167 #[vwV v,.slice A m c] w (RetNr (refL l (tellK l v.kn l.rt.length) v.kn S (byL l v.kn)) v.x.tn w):=by
 obtain ⟨⟨pA,pn,pc,rA,rn,rc,tA,tn,tc,sA,sn,sc⟩,kn,TA,Tn,Tc,DA,Dn,Dc⟩:=v
 obtain rfl:Tn=tn:=hTt
 show Calls _ _ #[.agg #[.slice pA pn pc,.slice rA rn rc,.slice tA Tn tc,.slice sA sn sc,.int .i64 kn,.slice TA Tn Tc,.slice DA Dn Dc],_] _ (RetNr (refL l (tellK l kn l.rt.length) kn S (byL l kn)) Tn w)
 have HTL:Hid (l.rt.length=Tn):=by show _=_;exact hd.t.len
 have htn6:Tn≤60:=by have h:=HTL.out;have h2:=hl.tn;omega
 have HSG:Hid (Sgs w w.heap.size sA sn l.sg):=by show Sq _ _ _ _ _ _ _;exact hd.s
 have hIL:I.length=m:=hI.len
 have hSL:S.length=m:=by have h:=congrArg List.length hIS;simpa [hIL] using h.symm
 have HIS:Hid (∀ k,k<m→∃ (j:Nat) (s:Sgt),I[k]?=some (j:Int)∧l.sg[j]?=some s∧S[k]?=some s):=by
  show ∀ _,_
  intro k hk
  have hi:I[k]?=some I[k]:=List.getElem?_eq_getElem (by omega)
  have hs:S[k]?=some S[k]:=List.getElem?_eq_getElem (by omega)
  have h1:=congrArg (fun L=>L[k]?) hIS
  simp only [List.getElem?_map,hi,hs,Option.map_some] at h1
  have h2:=h0 I[k] (List.getElem_mem _)
  exact ⟨I[k].toNat,S[k],by rw [hi];congr 1;omega,Option.some.inj h1,hs⟩
 have HBY:Hid (∀ (W:World) (i:Nat),Below w.heap.size w W→i<l.rt.length→Calls Tryz.prog 192 #[.agg #[.slice pA pn pc,.slice rA rn rc,.slice tA Tn tc,.slice sA sn sc,.int .i64 kn,.slice TA Tn Tc,.slice DA Dn Dc],.int .i64 i] W fun e w'=>e=.returned (.agg #[.int .i64 (byR l (tellK l kn l.rt.length) kn i).1,.int .i64 (byR l (tellK l kn l.rt.length) kn i).2])∧Below W.heap.size W w'):=by
  show ∀ _,_
  exact fun W i hW hi=>r_byReceipts l ⟨⟨pA,pn,pc,rA,rn,rc,tA,Tn,tc,sA,sn,sc⟩,kn,TA,Tn,Tc,DA,Dn,Dc⟩ i W hl rfl (hd.now hW) (hT.now abB hW) hi
 have HNR:Hid (∀ (W:World) (D:List (Int × Int)) (s:Sgt) (A:Option Addr) (c:Nat),Below w.heap.size w W→Sq QF 2 W W.heap.size A Tn D→s∈l.sg→Calls Tryz.prog 193 #[.agg #[.slice pA pn pc,.slice rA rn rc,.slice tA Tn tc,.slice sA sn sc,.int .i64 kn,.slice TA Tn Tc,.slice DA Dn Dc],.slice A Tn c,.agg #[.int .i64 s.src,.int .i64 s.per,.int .i64 s.pap,.int .i64 s.leaf,.int .i64 s.day,.int .i64 s.kn,.int .i64 s.un]] W (RetNr (refN l (tellK l kn l.rt.length) kn D s) Tn W)):=by
  show ∀ _,_
  exact fun W D s A c hW hD hs=>r_narrowed l ⟨⟨pA,pn,pc,rA,rn,rc,tA,Tn,tc,sA,sn,sc⟩,kn,TA,Tn,Tc,DA,Dn,Dc⟩ (tellK l kn l.rt.length) D s A Tn c W hl rfl rfl (hd.now hW) (hT.now abB hW) hD (hl.sg s hs).2
 have HI:=hd_ hI
 obtain ⟨i0,hi,hz0,hz1,hz2⟩:=info_parts infoRg
 clear hd hT hl hI h0 hIS
 go_enter Tryz.func167,Tryz.ntmps167
 go_wp2_with fail
 go_loopw [6,7] (fun u i wr=>∃ k:Nat,k≤Tn∧i=.int .i64 k∧wr.ownsRow (w.heap.size+1) 34 2 u k (folCells (byK l kn k))∧Below w.heap.size w wr∧BoxA wr w.heap.size 127 #[.slice pA pn pc,.slice rA rn rc,.slice tA Tn tc,.slice sA sn sc,.int .i64 kn,.slice TA Tn Tc,.slice DA Dn Dc]) (fun _ i _=>Tn - (intOf i).toNat)
 case atStart=>exact ⟨0,by omega,rfl,World.ownsRow_nil _ _ _ _,by exact bel_,BoxA.new _ _ _⟩
 case round =>
  obtain ⟨k,hk,rfl,hown,hB,bV⟩:=hrel
  have kV:=bV.cell
  have zV:=bV.lt
  have hs0:=hB.size
  by_cases hlt:k<Tn
  ·obtain ⟨d,hdd⟩:∃ d,byR l (tellK l kn l.rt.length) kn k=d:=⟨_,rfl⟩
   have HBS:Hid (byK l kn (k+1)=byK l kn k ++ [d]):=by show _=_;rw [byK_succ,hdd]
   have hbk:=byK_len l kn k
   have hfl:=folCells_len (byK l kn k)
   have HO:=hd_ hown
   have HBV:=hd_ bV
   clear hown bV
   go_wp2_with fail
   refine (HBY.out _ k hB (by rw [HTL.out];exact hlt)).mono ?_
   rw [hdd]
   rintro e w2 ⟨rfl,hb2⟩
   have hown2:=own_ext HO.out hb2
   have hz:=hb2.size
   clear hdd kV
   go_wp2_with (at_builtin;refine wpList_append_own _ rfl (.tmp 20) (.tmp 24) 125 rfl (w.heap.size+1) 34 i0 _ 2 16 Tryz.underlying125 hi hz0 hz1 hz2 rfl (by decide) _ _ _ rfl (hown2.alloc _) ⟨w2.heap.size,0,none⟩ 1 1 [.int .i64 d.1,.int .i64 d.2] rfl rfl ?c1 ?c2 ?c3 ?c4 ?c5 ?_;rotate_left 5;intro v' w3 hown3 hgrow3 _)
   case c1=>intro j u hj;match j,hj with
    | 0,hj=>simp at hj;subst hj;simp [Addr.add]
    | 1,hj=>simp at hj;subst hj;simp [Addr.add]
    | j+2,hj=>simp at hj
   case c2=>simp [Value.oneCell']
   case c3=>unfold maxLen;omega
   case c4=>omega
   case c5=>first | omega | (simp;omega)
   go_roundw
   case rel =>
    have hB2:=bt_ hB hb2
    refine ⟨k+1,by omega,by go_num,?_,?_,?_⟩
    ·rw [HBS.out]
     have e1:folCells (byK l kn k ++ [d])=folCells (byK l kn k) ++ [.int .i64 d.1,.int .i64 d.2]:=by simp [folCells]
     rw [e1]
     exact hown3
    ·exact (hB2.alloc hB2.size _).grown hgrow3 (by simp;omega) fun b e=>Nat.le_trans (Nat.le_succ _) (own_le hown2 e)
    ·exact ((HBV.out.ext hb2).alloc _).kept hgrow3 (fun e=>by have h:=own_le hown2 e.symm;omega)
   case measure=>exact ms_
  ·obtain rfl:k=Tn:=by omega
   obtain ⟨A1,c1,rfl,hcc⟩:=own_slice hown
   have hD0:wr.ownsRow w.heap.size 34 2 (.slice A1 k c1) k (folCells (byL l kn)):=by
    have h:=own_dn hown (Nat.le_succ _)
    rwa [show byK l kn k=byL l kn by (show byK l kn k=byK l kn l.rt.length;rw [HTL.out])] at h
   have HD0:=hd_ hD0
   obtain ⟨wo,rfl⟩:∃ wo,wo=wr:=⟨_,rfl⟩
   have HBV:=hd_ bV
   clear hown bV hD0
   go_wp2_with fail
   go_loopw [6,8,9] (fun u a i wr=>∃ (j:Nat) (A2:Option Addr) (c2:Nat),j≤m∧i=.int .i64 j∧u=.slice A2 k c2∧a=.bool (refL l (tellK l kn l.rt.length) kn (S.take j) (byL l kn)).2∧wr.ownsRow w.heap.size 34 2 (.slice A2 k c2) k (folCells (refL l (tellK l kn l.rt.length) kn (S.take j) (byL l kn)).1)∧Below wo.heap.size wo wr) (fun _ _ i _=>m - (intOf i).toNat)
   case atStart=>exact ⟨0,A1,c1,by omega,rfl,rfl,rfl,HD0.out,Below.refl _ _⟩
   case round =>
    obtain ⟨j,A2,c2,hj,rfl,rfl,rfl,hsq,hQ⟩:=hrel
    have hRl:(refL l (tellK l kn l.rt.length) kn (S.take j) (byL l kn)).1.length=k:=by rw [refL_len,byL_len,HTL.out]
    obtain ⟨R,hR⟩:∃ R,refL l (tellK l kn l.rt.length) kn (S.take j) (byL l kn)=R:=⟨_,rfl⟩
    rw [hR] at hsq hRl
    rw [hR]
    have bVq:=HBV.out.ext hQ
    have kVq:=bVq.cell
    have zVq:=bVq.lt
    have hBq:Below w.heap.size w wr:=hB.trans (hQ.mono hs0)
    have hsq0:=hBq.size
    have HSQ:=hd_ hsq
    clear hsq kV zV bVq
    by_cases hjm:j<m
    ·obtain ⟨ii,s,hik,hsg,hSk⟩:=HIS.out j hjm
     obtain ⟨bi,oi,y,rfl,hbi,hy,hcy⟩:=HI.out.at_ hjm
     obtain rfl:(ii:Int)=y:=Option.some.inj (hik.symm.trans hy)
     have hiis:ii<sn:=by rw [← HSG.out.len];exact (List.getElem?_eq_some_iff.1 hsg).1
     obtain ⟨bs,os,s',rfl,hbs,hxs,a0,a1,a2,a3,a4,a5,a6⟩:=HSG.out.at_ hiis
     obtain rfl:s=s':=Option.some.inj (hsg.symm.trans hxs)
     have cy:=(hBq.cell (p:=⟨bi,oi+j,none⟩) hbi).trans hcy
     have d0:=(hBq.cell (p:=⟨bs,os+ii*7,none⟩) hbs).trans a0
     have d1:=(hBq.cell (p:=⟨bs,os+ii*7+1,none⟩) hbs).trans a1
     have d2:=(hBq.cell (p:=⟨bs,os+ii*7+2,none⟩) hbs).trans a2
     have d3:=(hBq.cell (p:=⟨bs,os+ii*7+3,none⟩) hbs).trans a3
     have d4:=(hBq.cell (p:=⟨bs,os+ii*7+4,none⟩) hbs).trans a4
     have d5:=(hBq.cell (p:=⟨bs,os+ii*7+5,none⟩) hbs).trans a5
     have d6:=(hBq.cell (p:=⟨bs,os+ii*7+6,none⟩) hbs).trans a6
     have hbir:bi<wr.heap.size:=by omega
     have hbsr:bs<wr.heap.size:=by omega
     have HRS:Hid (refL l (tellK l kn l.rt.length) kn (S.take (j+1)) (byL l kn)=((refN l (tellK l kn l.rt.length) kn R.1 s).1,R.2 && (refN l (tellK l kn l.rt.length) kn R.1 s).2)):=by show _=_;rw [take_snoc_some hSk,refL_snoc,hR]
     have HSM:=hd_ (List.mem_of_getElem? hsg)
     clear hik hsg hSk hy hxs hcy a0 a1 a2 a3 a4 a5 a6 hR
     go_wp2_with fail
     (refine wp_region_bheld 17 (by kernel_rfl) rfl (fun hS=>?_);simp only [List.reduceReplicate,Array.replicate_succ,Array.replicate_zero])
     (refine tk_ (i:=0) (v:=?_) rfl ?_ hS ?_;rotate_left;focus (intro w2 hw2;obtain ⟨hc2,hf2⟩:=bcell hw2;go_simp;first | done | with_reducible rfl);(try simp only [Act.put,pu1,pu2,pu3]))
     (refine tk_ (i:=1) (v:=?_) rfl ?_ hS ?_;rotate_left;focus (intro w2 hw2;obtain ⟨hc2,hf2⟩:=bcell hw2;go_simp;first | done | with_reducible rfl);(try simp only [Act.put,pu1,pu2,pu3]))
     (refine tk_ (i:=2) (v:=?_) rfl ?_ hS ?_;rotate_left;focus (intro w2 hw2;obtain ⟨hc2,hf2⟩:=bcell hw2;go_simp;first | done | with_reducible rfl);(try simp only [Act.put,pu1,pu2,pu3]))
     (refine tk_ (i:=3) (v:=?_) rfl ?_ hS ?_;rotate_left;focus (intro w2 hw2;obtain ⟨hc2,hf2⟩:=bcell hw2;go_simp;first | done | with_reducible rfl);(try simp only [Act.put,pu1,pu2,pu3]))
     (refine tk_ (i:=4) (v:=?_) rfl ?_ hS ?_;rotate_left;focus (intro w2 hw2;obtain ⟨hc2,hf2⟩:=bcell hw2;go_simp;first | done | with_reducible rfl);(try simp only [Act.put,pu1,pu2,pu3]))
     (refine tk_ (i:=5) (v:=?_) rfl ?_ hS ?_;rotate_left;focus (intro w2 hw2;obtain ⟨hc2,hf2⟩:=bcell hw2;go_simp;first | done | with_reducible rfl);(try simp only [Act.put,pu1,pu2,pu3]))
     (refine tk_ (i:=6) (v:=?_) rfl ?_ hS ?_;rotate_left;focus (intro w2 hw2;obtain ⟨hc2,hf2⟩:=bcell hw2;go_simp;first | done | with_reducible rfl);(try simp only [Act.put,pu1,pu2,pu3]))
     (refine tk_ (i:=7) (v:=?_) rfl ?_ hS ?_;rotate_left;focus (intro w2 hw2;obtain ⟨hc2,hf2⟩:=bcell hw2;go_simp;first | done | with_reducible rfl);(try simp only [Act.put,pu1,pu2,pu3]))
     (refine tk_ (i:=8) (v:=?_) rfl ?_ hS ?_;rotate_left;focus (intro w2 hw2;obtain ⟨hc2,hf2⟩:=bcell hw2;go_simp;first | done | with_reducible rfl);(try simp only [Act.put,pu1,pu2,pu3]))
     (refine tk_ (i:=9) (v:=?_) rfl ?_ hS ?_;rotate_left;focus (intro w2 hw2;obtain ⟨hc2,hf2⟩:=bcell hw2;go_simp;first | done | with_reducible rfl);(try simp only [Act.put,pu1,pu2,pu3]))
     (refine tk_ (i:=10) (v:=?_) rfl ?_ hS ?_;rotate_left;focus (intro w2 hw2;obtain ⟨hc2,hf2⟩:=bcell hw2;go_simp;first | done | with_reducible rfl);(try simp only [Act.put,pu1,pu2,pu3]))
     refine rd_ [11] ?_
     refine ah1 rfl fun K hK=>?_
     (go_simp;refine (HNR.out _ R.1 s A2 c2 (by exact bel_) (sq_of_own (own_ext HSQ.out ((Below.refl _ _).drew)) hRl) HSM.out).mono ?_;rintro e w3 ⟨A3,c3,rfl,hb3,hsq3⟩;go_simp)
     have h3:Below wr.heap.size wr w3:=bt_ hS hb3
     refine hK.out _ _ h3 (fun hS=>?_)
     clear hK K
     (try simp only [Act.put,pu1,pu2,pu3])
     (refine tk_ (i:=12) (v:=?_) rfl ?_ hS ?_;rotate_left;focus (intro w2 hw2;obtain ⟨hc2,hf2⟩:=bcell hw2;go_simp;first | done | with_reducible rfl);(try simp only [Act.put,pu1,pu2,pu3]))
     (refine tk_ (i:=13) (v:=?_) rfl ?_ hS ?_;rotate_left;focus (intro w2 hw2;obtain ⟨hc2,hf2⟩:=bcell hw2;go_simp;first | done | with_reducible rfl);(try simp only [Act.put,pu1,pu2,pu3]))
     (refine tk_ (i:=14) (v:=?_) rfl ?_ hS ?_;rotate_left;focus (intro w2 hw2;obtain ⟨hc2,hf2⟩:=bcell hw2;go_simp;first | done | with_reducible rfl);(try simp only [Act.put,pu1,pu2,pu3]))
     (refine tk_ (i:=15) (v:=?_) rfl ?_ hS ?_;rotate_left;focus (intro w2 hw2;obtain ⟨hc2,hf2⟩:=bcell hw2;go_simp;first | done | with_reducible rfl);(try simp only [Act.put,pu1,pu2,pu3]))
     (refine tk_ (i:=16) (v:=?_) rfl ?_ hS ?_;rotate_left;focus (intro w2 hw2;obtain ⟨hc2,hf2⟩:=bcell hw2;go_simp;first | done | with_reducible rfl);(try simp only [Act.put,pu1,pu2,pu3]))
     refine wpAnyH_done (by kernel_rfl) ?_ _
     have HSQ3:=hd_ (own_dn hsq3 (show w.heap.size≤wr.drew.heap.size from hsq0))
     obtain ⟨N,hN⟩:∃ N,refN l (tellK l kn l.rt.length) kn R.1 s=N:=⟨_,rfl⟩
     rw [hN] at HSQ3 HRS ⊢
     obtain ⟨R1,R2⟩:=R
     clear hsq3 hN cy d0 d1 d2 d3 d4 d5 d6 kVq zVq hb3 hS hRl
     have hQ3:=bt_ hQ h3
     cases R2 with
     | false =>
       go_wp2_with fail
       go_roundw
       case rel=>exact ⟨j+1,A3,c3,by omega,by go_num,rfl,by rw [HRS.out];rfl,by rw [HRS.out];exact HSQ3.out,hQ3⟩
       case measure=>exact ms_
     | true =>
       go_wp2_with fail
       go_roundw
       case rel=>exact ⟨j+1,A3,c3,by omega,by go_num,rfl,by rw [HRS.out];rfl,by rw [HRS.out];exact HSQ3.out,hQ3⟩
       case measure=>exact ms_
    ·have hjS:Hid (refL l (tellK l kn l.rt.length) kn S (byL l kn)=R):=by
      show _=_
      rw [← hR,List.take_of_length_le (by omega)]
     clear hR
     go_wp2_with fail
     go_ret2
     rw [hjS.out]
     exact ⟨_,_,rfl,hBq,HSQ.out⟩
set_option maxRecDepth 10000 in
theorem r_look (l:Led) (x:Lsl) (kn:Int) (w:World) (hl:LedOk l) (hd:LedIn w w.heap.size x l) :
 Calls Tryz.prog 105 #[.agg #[.slice x.pA x.pn x.pc,.slice x.rA x.rn x.rc,.slice x.tA x.tn x.tc,.slice x.sA x.sn x.sc],.int .i64 kn] w fun e w'=>∃ B c,e=.returned (.agg #[.slice x.pA x.pn x.pc,.slice x.rA x.rn x.rc,.slice x.tA x.tn x.tc,.slice x.sA x.sn x.sc,.int .i64 kn,.slice (some ⟨B,0,none⟩) x.tn c,.slice none 0 0])∧Below w.heap.size w w'∧BoxA w' B 4 (boolL (tellK l kn l.rt.length)).toArray∧w.heap.size≤B:=by
 obtain ⟨pA,pn,pc,rA,rn,rc,tA,tn,tc,sA,sn,sc⟩:=x
 show Calls _ _ #[.agg #[.slice pA pn pc,.slice rA rn rc,.slice tA tn tc,.slice sA sn sc],_] _ _
 have HTE:Hid (∀ W:World,Below w.heap.size w W→Calls Tryz.prog 103 #[.agg #[.slice pA pn pc,.slice rA rn rc,.slice tA tn tc,.slice sA sn sc],.int .i64 kn] W (RetTl l kn tn W)):=by
  show ∀ _,_
  exact fun W hW=>r_telling l ⟨pA,pn,pc,rA,rn,rc,tA,tn,tc,sA,sn,sc⟩ kn W hl (hd.now hW)
 clear hd hl
 go_enter Tryz.func105,Tryz.ntmps105
 go_wp2_with fail
 refine wp_named2 fun f1 W4 hf1 hW4=>?_
 have bL:BoxA W4 w.heap.size 27 #[.slice pA pn pc,.slice rA rn rc,.slice tA tn tc,.slice sA sn sc]:=by (rw [← hW4];simp only [boxed_iff,boxa_iff,alloc_get,drew_heap,World.size_alloc];(repeat (first | rw [if_pos trivial] | rw [if_pos (by omega)] | rw [if_neg (by omega)])))
 have bZ:BoxA W4 (w.heap.size+1) 127 #[.slice none 0 0,.slice none 0 0,.slice none 0 0,.slice none 0 0,.int .i64 0,.slice none 0 0,.slice none 0 0]:=by (rw [← hW4];simp only [boxed_iff,boxa_iff,alloc_get,drew_heap,World.size_alloc];(repeat (first | rw [if_pos trivial] | rw [if_pos (by omega)] | rw [if_neg (by omega)])))
 have HB4:Below w.heap.size w W4:=by rw [← hW4];exact bel_
 have hs4:=HB4.size
 clear hW4
 subst hf1
 have kL:=bL.cell
 have zL:=bL.lt
 have zZ:=bZ.lt
 (refine wp_region_held_lit (S:=(fun V=>V.cell? ⟨w.heap.size,0,none⟩=some (.slice pA pn pc)∧V.cell? ⟨w.heap.size,1,none⟩=some (.slice rA rn rc)∧V.cell? ⟨w.heap.size,2,none⟩=some (.slice tA tn tc)∧V.cell? ⟨w.heap.size,3,none⟩=some (.slice sA sn sc))) 7 (by kernel_rfl) rfl ⟨(kL 0).trans rfl,(kL 1).trans rfl,(kL 2).trans rfl,(kL 3).trans rfl⟩ (fun hS=>?_);simp only [List.reduceReplicate,Array.replicate_succ,Array.replicate_zero])
 (refine tk_ (i:=0) (v:=?_) rfl ?_ hS ?_;rotate_left;focus (intro w2 hw2;go_split_ands;go_simp;first | done | with_reducible rfl);(try simp only [Act.put,pu1,pu2,pu3]))
 (refine tk_ (i:=1) (v:=?_) rfl ?_ hS ?_;rotate_left;focus (intro w2 hw2;go_split_ands;go_simp;first | done | with_reducible rfl);(try simp only [Act.put,pu1,pu2,pu3]))
 (refine tk_ (i:=2) (v:=?_) rfl ?_ hS ?_;rotate_left;focus (intro w2 hw2;go_split_ands;go_simp;first | done | with_reducible rfl);(try simp only [Act.put,pu1,pu2,pu3]))
 (refine tk_ (i:=3) (v:=?_) rfl ?_ hS ?_;rotate_left;focus (intro w2 hw2;go_split_ands;go_simp;first | done | with_reducible rfl);(try simp only [Act.put,pu1,pu2,pu3]))
 refine rd_ [4] ?_
 refine ah1 rfl fun K hK=>?_
 (go_simp;go_at_call 103;refine (HTE.out _ (by exact bel_)).mono ?_;rintro e w6 ⟨B,Tc,rfl,hb6,hT,hBB⟩;go_simp)
 have h6:Below W4.heap.size W4 w6:=bt_ (by exact bel_) hb6
 have bL6:=bL.ext h6
 have bZ6:=bZ.ext h6
 have kL6:=bL6.cell
 refine hK.out _ _ ⟨(kL6 0).trans rfl,(kL6 1).trans rfl,(kL6 2).trans rfl,(kL6 3).trans rfl⟩ (fun hS=>?_)
 clear hK K
 (try simp only [Act.put,pu1,pu2,pu3])
 (refine tk_ (i:=5) (v:=?_) rfl ?_ hS ?_;rotate_left;focus (intro w2 hw2;go_split_ands;go_simp;first | done | with_reducible rfl);(try simp only [Act.put,pu1,pu2,pu3]))
 have kZ:=bZ6.cell
 have zZ6:=bZ6.lt
 have fZ:=bZ6.frozen
 have HT:=hd_ hT
 have HBL6:=hd_ bL6
 have HBZ6:=hd_ bZ6
 have hBB2:W4.heap.size≤B:=hBB
 clear kL zL bL bZ bL6 bZ6 kL6 hT
 refine rd_ [6] ?_
 refine ah1 rfl fun K hK=>?_
 go_simp
 have n01:w.heap.size≠w.heap.size+1:=by omega
 have q:=(HBL6.out.other7 n01 (.slice pA pn pc) (.slice rA rn rc) (.slice tA tn tc) (.slice sA sn sc) (.int .i64 kn) (.slice (some ⟨B,0,none⟩) tn Tc) (.slice none 0 0)).cell
 refine hK.out _ _ ⟨(q 0).trans rfl,(q 1).trans rfl,(q 2).trans rfl,(q 3).trans rfl⟩ (fun hS=>?_)
 clear hK K q
 (try simp only [Act.put,pu1,pu2,pu3])
 refine wpAnyH_done (by kernel_rfl) ?_ _
 have bZ7:=HBZ6.out.set7 (.slice pA pn pc) (.slice rA rn rc) (.slice tA tn tc) (.slice sA sn sc) (.int .i64 kn) (.slice (some ⟨B,0,none⟩) tn Tc) (.slice none 0 0)
 have hz4:w.heap.size+1<W4.heap.size:=zZ
 have HT7:=hd_ (HT.out.other7 (show B≠w.heap.size+1 by omega) (.slice pA pn pc) (.slice rA rn rc) (.slice tA tn tc) (.slice sA sn sc) (.int .i64 kn) (.slice (some ⟨B,0,none⟩) tn Tc) (.slice none 0 0))
 have HB7:Below w.heap.size w (((((((w6.setCell ⟨w.heap.size+1,0,none⟩ (.slice pA pn pc)).setCell ⟨w.heap.size+1,1,none⟩ (.slice rA rn rc)).setCell ⟨w.heap.size+1,2,none⟩ (.slice tA tn tc)).setCell ⟨w.heap.size+1,3,none⟩ (.slice sA sn sc)).setCell ⟨w.heap.size+1,4,none⟩ (.int .i64 kn)).setCell ⟨w.heap.size+1,5,none⟩ (.slice (some ⟨B,0,none⟩) tn Tc)).setCell ⟨w.heap.size+1,6,none⟩ (.slice none 0 0)):=below_set7 (HB4.trans (h6.mono hs4)) (Nat.le_succ _) _ _ _ _ _ _ _
 have HZ7:=hd_ bZ7
 obtain ⟨W7,hW7⟩:∃ W7,(((((((w6.setCell ⟨w.heap.size+1,0,none⟩ (.slice pA pn pc)).setCell ⟨w.heap.size+1,1,none⟩ (.slice rA rn rc)).setCell ⟨w.heap.size+1,2,none⟩ (.slice tA tn tc)).setCell ⟨w.heap.size+1,3,none⟩ (.slice sA sn sc)).setCell ⟨w.heap.size+1,4,none⟩ (.int .i64 kn)).setCell ⟨w.heap.size+1,5,none⟩ (.slice (some ⟨B,0,none⟩) tn Tc)).setCell ⟨w.heap.size+1,6,none⟩ (.slice none 0 0))=W7:=⟨_,rfl⟩
 rw [hW7] at HT7 HZ7 HB7 ⊢
 clear hW7 bZ7 kZ zZ6 fZ hS hb6
 have kZ:=HZ7.out.cell
 have zZ:=HZ7.out.lt
 go_wp2
 refine bodyPost_ret (v:=.agg #[.slice pA pn pc,.slice rA rn rc,.slice tA tn tc,.slice sA sn sc,.int .i64 kn,.slice (some ⟨B,0,none⟩) tn Tc,.slice none 0 0]) ?_ rfl ?_
 ·(simp [results,Tryz.f105,go_sem];try go_simp)
 ·exact ⟨_,_,rfl,HB7,HT7.out,by omega⟩
theorem r_asked_v (l:Led) (x:Lsl) (ds:List Int) (v:Int) (D:Option Addr) (m c0:Nat) (w:World) (hf:x.fit) (hd:LedIn w w.heap.size x l) (hm:m≤9223372036854775807) (hdy:Is w w.heap.size D m ds) (h:preE l ds=v) :
 Calls Tryz.prog 102 #[.agg #[.slice x.pA x.pn x.pc,.slice x.rA x.rn x.rc,.slice x.tA x.tn x.tc,.slice x.sA x.sn x.sc],.slice D m c0] w fun e w'=>e=.returned (.int .i64 v)∧Below w.heap.size w w':=h ▸ r_asked l x ds D m c0 w hf hd hm hdy
theorem r_doubles_v (l:Led) (v:Vw) (T:List Bool) (o:Option (Rcp × Rcp)) (w:World) (hl:LedOk l) (hTt:v.Tn=v.x.tn) (hd:LedIn w w.heap.size v.x l) (hT:Sq QB 1 w w.heap.size v.TA v.Tn T) (h:firstP (refD l T v.kn) l.rc=o) :
 Calls Tryz.prog 106 #[vwV v] w (RetLI (dblS o) w):=h ▸ r_doubles l v T w hl hTt hd hT
theorem sgN_pos (S:List Sgt) (kn:Int) (k:Nat):∀ i∈sgN S kn k,0≤i:=by
 intro i hi
 rw [sgN] at hi
 obtain ⟨j,-,rfl⟩:=List.mem_map.1 hi
 omega
theorem own_setB {W:World} {base size n C o:Nat} {e:TypeId} {v:Value} {xs:List Value} (h:W.ownsRow base e size v n xs) (hC:C<base) (u:Value):(W.setCell ⟨C,o,none⟩ u).ownsRow base e size v n xs :=
 own_keep h fun b hb=>Below.heap_setCell _ _ _ _ (by have h2:=own_le h hb;simp;omega)
set_option maxRecDepth 10000 in
theorem r_soundD (l:Led) (x:Lsl) (kn:Int) (q:Rcp × Rcp) (w:World) (hl:LedOk l) (hd:LedIn w w.heap.size x l) (ho:firstP (refD l (tellK l kn l.rt.length) kn) l.rc=some q) :
 Calls Tryz.prog 113 #[.agg #[.slice x.pA x.pn x.pc,.slice x.rA x.rn x.rc,.slice x.tA x.tn x.tc,.slice x.sA x.sn x.sc],.int .i64 kn] w (fun e w'=>∃ B Tc,e=.returned (.tuple #[.agg #[.slice x.pA x.pn x.pc,.slice x.rA x.rn x.rc,.slice x.tA x.tn x.tc,.slice x.sA x.sn x.sc,.int .i64 kn,.slice (some ⟨B,0,none⟩) x.tn Tc,.slice none 0 0],.int .i64 25])∧Below w.heap.size w w'):=by
 obtain ⟨pA,pn,pc,rA,rn,rc,tA,tn,tc,sA,sn,sc⟩:=x
 have HD:=hd_ hd
 have HLO:=hd_ hl
 have HO:=hd_ ho
 clear ho
 clear hd hl
 go_enter Tryz.func113,Tryz.ntmps113
 have BZ0:Hid (BoxA ((w.alloc (.cells #[.slice pA pn pc,.slice rA rn rc,.slice tA tn tc,.slice sA sn sc] 27)).alloc (.cells #[.slice none 0 0,.slice none 0 0,.slice none 0 0,.slice none 0 0,.int .i64 0,.slice none 0 0,.slice none 0 0] 127)) (w.heap.size+1) 127 #[.slice none 0 0,.slice none 0 0,.slice none 0 0,.slice none 0 0,.int .i64 0,.slice none 0 0,.slice none 0 0]):=by
  show BoxA _ _ _ _
  have h:=BoxA.new (w.alloc (.cells #[.slice pA pn pc,.slice rA rn rc,.slice tA tn tc,.slice sA sn sc] 27)) 127 #[.slice none 0 0,.slice none 0 0,.slice none 0 0,.slice none 0 0,.int .i64 0,.slice none 0 0,.slice none 0 0]
  simpa using h
 go_wp2_with (first | (go_at_call 105;refine (r_look l ⟨pA,pn,pc,rA,rn,rc,tA,tn,tc,sA,sn,sc⟩ kn _ HLO.out (HD.out.now (by exact bel_))).mono ?_;rintro e w2 ⟨B,Tc,rfl,hb2,hT,hBB⟩;have HB2:Below w.heap.size w w2:=bt_ (by exact bel_) hb2;have hs2:=HB2.size;have bZ2:=BZ0.out.ext hb2;have kZ2:=bZ2.cell;have zZ2:=bZ2.lt;have fZ2:=bZ2.frozen;have hBB1:w.heap.size+1+1≤B:=(by have h:=hBB;simp only [World.size_alloc] at h;exact h);have zT:=hT.lt;have HT:=hd_ hT;clear hT hb2 hBB) | (go_at_call 106;refine (r_doubles_v l ⟨⟨pA,pn,pc,rA,rn,rc,tA,tn,tc,sA,sn,sc⟩,kn,some ⟨B,0,none⟩,tn,Tc,none,0,0⟩ (tellK l kn l.rt.length) (some q) _ HLO.out rfl (HD.out.now (by exact bel_)) ((HT.out.alloc _).sqT (by rw [tellK_len];exact HD.out.t.len) (by simp;omega)) HO.out).mono ?_;rintro e w3 ⟨A3,n3,c3,rfl,hb3,hr3,hc3⟩;obtain rfl:n3=2:=hr3.len.symm;have HB3:Below w.heap.size w w3:=bt_ (by exact bel_) hb3;have hs3:=HB3.size;have bV3:=(BoxA.new w2 127 #[.slice pA pn pc,.slice rA rn rc,.slice tA tn tc,.slice sA sn sc,.int .i64 kn,.slice (some ⟨B,0,none⟩) tn Tc,.slice none 0 0]).ext hb3;have kV3:=bV3.cell;have zV3:=bV3.lt;have bZ3:=(bZ2.alloc _).ext hb3;have kZ3:=bZ3.cell;have zZ3:=bZ3.lt;have fZ3:=bZ3.frozen;have HT3:=hd_ ((HT.out.alloc (.cells #[.slice pA pn pc,.slice rA rn rc,.slice tA tn tc,.slice sA sn sc,.int .i64 kn,.slice (some ⟨B,0,none⟩) tn Tc,.slice none 0 0] 127)).ext hb3);have HBZ3:=hd_ bZ3;have HBV3:=hd_ bV3;have hzz2:w.heap.size+1<w2.heap.size:=zZ2;clear bZ3 bV3 hb3 hr3 hc3 kZ2 zZ2 fZ2))
 have HZ7:=hd_ (HBZ3.out.set7 (.slice pA pn pc) (.slice rA rn rc) (.slice tA tn tc) (.slice sA sn sc) (.int .i64 kn) (.slice (some ⟨B,0,none⟩) tn Tc) (.slice none 0 0))
 have HT7:=hd_ (HT3.out.other7 (show B≠w.heap.size+1 by omega) (.slice pA pn pc) (.slice rA rn rc) (.slice tA tn tc) (.slice sA sn sc) (.int .i64 kn) (.slice (some ⟨B,0,none⟩) tn Tc) (.slice none 0 0))
 have HB7:Below w.heap.size w (((((((w3.setCell ⟨w.heap.size+1,0,none⟩ (.slice pA pn pc)).setCell ⟨w.heap.size+1,1,none⟩ (.slice rA rn rc)).setCell ⟨w.heap.size+1,2,none⟩ (.slice tA tn tc)).setCell ⟨w.heap.size+1,3,none⟩ (.slice sA sn sc)).setCell ⟨w.heap.size+1,4,none⟩ (.int .i64 kn)).setCell ⟨w.heap.size+1,5,none⟩ (.slice (some ⟨B,0,none⟩) tn Tc)).setCell ⟨w.heap.size+1,6,none⟩ (.slice none 0 0)):=below_set7 HB3 (Nat.le_succ _) _ _ _ _ _ _ _
 obtain ⟨W7,hW7⟩:∃ W7,(((((((w3.setCell ⟨w.heap.size+1,0,none⟩ (.slice pA pn pc)).setCell ⟨w.heap.size+1,1,none⟩ (.slice rA rn rc)).setCell ⟨w.heap.size+1,2,none⟩ (.slice tA tn tc)).setCell ⟨w.heap.size+1,3,none⟩ (.slice sA sn sc)).setCell ⟨w.heap.size+1,4,none⟩ (.int .i64 kn)).setCell ⟨w.heap.size+1,5,none⟩ (.slice (some ⟨B,0,none⟩) tn Tc)).setCell ⟨w.heap.size+1,6,none⟩ (.slice none 0 0))=W7:=⟨_,rfl⟩
 rw [hW7] at HT7 HZ7 HB7 ⊢
 clear hW7 kZ3 zZ3 fZ3
 have kZ:=HZ7.out.cell
 have zZ:=HZ7.out.lt
 refine bodyPost_ret (v:=.tuple #[.agg #[.slice pA pn pc,.slice rA rn rc,.slice tA tn tc,.slice sA sn sc,.int .i64 kn,.slice (some ⟨B,0,none⟩) tn Tc,.slice none 0 0],.int .i64 25]) ?_ rfl ?_
 ·(simp [results,Tryz.f113,go_sem];try go_simp)
 ·first | exact ⟨_,_,rfl,HB7⟩ | exact ⟨⟨_,_,rfl⟩,HB7⟩
set_option maxRecDepth 10000 in
theorem r_soundC (l:Led) (x:Lsl) (kn:Int) (w:World) (hl:LedOk l) (hd:LedIn w w.heap.size x l) (ho:firstP (refD l (tellK l kn l.rt.length) kn) l.rc=none) (hR:(refL l (tellK l kn l.rt.length) kn (cntS l kn) (byL l kn)).2=false) :
 Calls Tryz.prog 113 #[.agg #[.slice x.pA x.pn x.pc,.slice x.rA x.rn x.rc,.slice x.tA x.tn x.tc,.slice x.sA x.sn x.sc],.int .i64 kn] w (fun e w'=>∃ B Tc,e=.returned (.tuple #[.agg #[.slice x.pA x.pn x.pc,.slice x.rA x.rn x.rc,.slice x.tA x.tn x.tc,.slice x.sA x.sn x.sc,.int .i64 kn,.slice (some ⟨B,0,none⟩) x.tn Tc,.slice none 0 0],.int .i64 27])∧Below w.heap.size w w'):=by
 obtain ⟨pA,pn,pc,rA,rn,rc,tA,tn,tc,sA,sn,sc⟩:=x
 have HD:=hd_ hd
 have HLO:=hd_ hl
 have HO:=hd_ ho
 clear ho
 obtain ⟨⟨R1,R2⟩,hRR⟩:∃ R,refL l (tellK l kn l.rt.length) kn (cntS l kn) (byL l kn)=R:=⟨_,rfl⟩
 rw [hRR] at hR
 have hR:R2=false:=hR
 subst hR
 have HRR:=hd_ hRR
 clear hRR
 clear hd hl
 go_enter Tryz.func113,Tryz.ntmps113
 have BZ0:Hid (BoxA ((w.alloc (.cells #[.slice pA pn pc,.slice rA rn rc,.slice tA tn tc,.slice sA sn sc] 27)).alloc (.cells #[.slice none 0 0,.slice none 0 0,.slice none 0 0,.slice none 0 0,.int .i64 0,.slice none 0 0,.slice none 0 0] 127)) (w.heap.size+1) 127 #[.slice none 0 0,.slice none 0 0,.slice none 0 0,.slice none 0 0,.int .i64 0,.slice none 0 0,.slice none 0 0]):=by
  show BoxA _ _ _ _
  have h:=BoxA.new (w.alloc (.cells #[.slice pA pn pc,.slice rA rn rc,.slice tA tn tc,.slice sA sn sc] 27)) 127 #[.slice none 0 0,.slice none 0 0,.slice none 0 0,.slice none 0 0,.int .i64 0,.slice none 0 0,.slice none 0 0]
  simpa using h
 go_wp2_with (first | (go_at_call 105;refine (r_look l ⟨pA,pn,pc,rA,rn,rc,tA,tn,tc,sA,sn,sc⟩ kn _ HLO.out (HD.out.now (by exact bel_))).mono ?_;rintro e w2 ⟨B,Tc,rfl,hb2,hT,hBB⟩;have HB2:Below w.heap.size w w2:=bt_ (by exact bel_) hb2;have hs2:=HB2.size;have bZ2:=BZ0.out.ext hb2;have kZ2:=bZ2.cell;have zZ2:=bZ2.lt;have fZ2:=bZ2.frozen;have hBB1:w.heap.size+1+1≤B:=(by have h:=hBB;simp only [World.size_alloc] at h;exact h);have zT:=hT.lt;have HT:=hd_ hT;clear hT hb2 hBB) | (go_at_call 106;refine (r_doubles_v l ⟨⟨pA,pn,pc,rA,rn,rc,tA,tn,tc,sA,sn,sc⟩,kn,some ⟨B,0,none⟩,tn,Tc,none,0,0⟩ (tellK l kn l.rt.length) none _ HLO.out rfl (HD.out.now (by exact bel_)) ((HT.out.alloc _).sqT (by rw [tellK_len];exact HD.out.t.len) (by simp;omega)) HO.out).mono ?_;rintro e w3 ⟨A3,n3,c3,rfl,hb3,hr3,hc3⟩;obtain rfl:n3=0:=hr3.len.symm;have HB3:Below w.heap.size w w3:=bt_ (by exact bel_) hb3;have hs3:=HB3.size;have bV3:=(BoxA.new w2 127 #[.slice pA pn pc,.slice rA rn rc,.slice tA tn tc,.slice sA sn sc,.int .i64 kn,.slice (some ⟨B,0,none⟩) tn Tc,.slice none 0 0]).ext hb3;have kV3:=bV3.cell;have zV3:=bV3.lt;have bZ3:=(bZ2.alloc _).ext hb3;have kZ3:=bZ3.cell;have zZ3:=bZ3.lt;have fZ3:=bZ3.frozen;have HT3:=hd_ ((HT.out.alloc (.cells #[.slice pA pn pc,.slice rA rn rc,.slice tA tn tc,.slice sA sn sc,.int .i64 kn,.slice (some ⟨B,0,none⟩) tn Tc,.slice none 0 0] 127)).ext hb3);have HBZ3:=hd_ bZ3;have HBV3:=hd_ bV3;have hzz2:w.heap.size+1<w2.heap.size:=zZ2;clear bZ3 bV3 hb3 hr3 hc3 kZ2 zZ2 fZ2))
 have HSI:Hid (∀ W:World,Below w3.heap.size w3 W→Calls Tryz.prog 110 #[.agg #[.slice pA pn pc,.slice rA rn rc,.slice tA tn tc,.slice sA sn sc,.int .i64 kn,.slice (some ⟨B,0,none⟩) tn Tc,.slice none 0 0]] W (RetO (sgN l.sg kn l.sg.length) W)):=by
  show ∀ _,_
  exact fun W hW=>r_sights l ⟨⟨pA,pn,pc,rA,rn,rc,tA,tn,tc,sA,sn,sc⟩,kn,some ⟨B,0,none⟩,tn,Tc,none,0,0⟩ W (by have h:=HD.out.s.len;have h2:=HLO.out.sn;show sn≤1000000;dsimp only at h;omega) (HD.out.now (HB3.trans (hW.mono hs3)))
 have HDY:Hid (∀ (W:World) (A:Option Addr) (m c:Nat),Below w3.heap.size w3 W→m≤1000000→Is W W.heap.size A m (sgN l.sg kn l.sg.length)→Calls Tryz.prog 167 #[.agg #[.slice pA pn pc,.slice rA rn rc,.slice tA tn tc,.slice sA sn sc,.int .i64 kn,.slice (some ⟨B,0,none⟩) tn Tc,.slice none 0 0],.slice A m c] W (RetNr (R1,false) tn W)):=by
  show ∀ _,_
  intro W A m c hW hm hI
  have h:=r_days l ⟨⟨pA,pn,pc,rA,rn,rc,tA,tn,tc,sA,sn,sc⟩,kn,some ⟨B,0,none⟩,tn,Tc,none,0,0⟩ (sgN l.sg kn l.sg.length) (cntS l kn) A m c W HLO.out rfl (HD.out.now (HB3.trans (hW.mono hs3))) (((HT3.out.ext hW).sqT (by rw [tellK_len];exact HD.out.t.len) (HT3.out.ext hW).lt)) hm hI (sgN_pos _ _ _) (sgN_cnt l kn)
  dsimp only at h
  rw [HRR.out] at h
  exact h
 have hnl:=sgN_len l.sg kn l.sg.length
 have hn60:l.sg.length≤60:=HLO.out.sn
 go_wp2_with fail
 (refine wp_region_bheld 9 (by kernel_rfl) rfl (fun hS=>?_);simp only [List.reduceReplicate,Array.replicate_succ,Array.replicate_zero])
 (refine tk_ (i:=0) (v:=?_) rfl ?_ hS ?_;rotate_left;focus (intro w2 hw2;obtain ⟨hc2,hf2⟩:=bcell hw2;go_simp;first | done | with_reducible rfl);(try simp only [Act.put,pu1,pu2,pu3]))
 (refine tk_ (i:=1) (v:=?_) rfl ?_ hS ?_;rotate_left;focus (intro w2 hw2;obtain ⟨hc2,hf2⟩:=bcell hw2;go_simp;first | done | with_reducible rfl);(try simp only [Act.put,pu1,pu2,pu3]))
 refine rd_ [2] ?_
 refine ah1 rfl fun K hK=>?_
 (go_simp;refine (HSI.out _ (by exact bel_)).mono ?_;rintro e w4 ⟨v4,rfl,hb4,ho4⟩;obtain ⟨A4,c4,rfl,hcc4⟩:=own_slice ho4;go_simp)
 have h4:Below w3.heap.size w3 w4:=bt_ hS hb4
 have HI4:Hid (Is w4 w4.heap.size A4 (sgN l.sg kn l.sg.length).length (sgN l.sg kn l.sg.length)):=by show Is _ _ _ _ _;exact Rd.of_own ho4
 refine hK.out _ _ h4 (fun hS=>?_)
 clear hK K ho4
 (try simp only [Act.put,pu1,pu2,pu3])
 refine rd_ [3] ?_
 refine ah1 rfl fun K hK=>?_
 (go_simp;refine (HDY.out _ _ _ _ h4 (by omega) HI4.out).mono ?_;rintro e w5 ⟨A5,c5,rfl,hb5,ho5⟩;go_simp)
 have h5:Below w3.heap.size w3 w5:=bt_ h4 hb5
 refine hK.out _ _ h5 (fun hS=>?_)
 clear hK K
 (try simp only [Act.put,pu1,pu2,pu3])
 (refine tk_ (i:=4) (v:=?_) rfl ?_ hS ?_;rotate_left;focus (intro w2 hw2;obtain ⟨hc2,hf2⟩:=bcell hw2;go_simp;first | done | with_reducible rfl);(try simp only [Act.put,pu1,pu2,pu3]))
 (refine tk_ (i:=5) (v:=?_) rfl ?_ hS ?_;rotate_left;focus (intro w2 hw2;obtain ⟨hc2,hf2⟩:=bcell hw2;go_simp;first | done | with_reducible rfl);(try simp only [Act.put,pu1,pu2,pu3]))
 (refine tk_ (i:=6) (v:=?_) rfl ?_ hS ?_;rotate_left;focus (intro w2 hw2;obtain ⟨hc2,hf2⟩:=bcell hw2;go_simp;first | done | with_reducible rfl);(try simp only [Act.put,pu1,pu2,pu3]))
 (refine tk_ (i:=7) (v:=?_) rfl ?_ hS ?_;rotate_left;focus (intro w2 hw2;obtain ⟨hc2,hf2⟩:=bcell hw2;go_simp;first | done | with_reducible rfl);(try simp only [Act.put,pu1,pu2,pu3]))
 (refine tk_ (i:=8) (v:=?_) rfl ?_ hS ?_;rotate_left;focus (intro w2 hw2;obtain ⟨hc2,hf2⟩:=bcell hw2;go_simp;first | done | with_reducible rfl);(try simp only [Act.put,pu1,pu2,pu3]))
 refine wpAnyH_done (by kernel_rfl) ?_ _
 have HO5:=hd_ ho5
 have HB5:=HB3.trans (h5.mono hs3)
 have hs5:=HB5.size
 have bV5:=HBV3.out.ext h5
 have bZ5:=HBZ3.out.ext h5
 have kV5:=bV5.cell
 have zV5:=bV5.lt
 have fV5:=bV5.frozen
 have kZ5:=bZ5.cell
 have zZ5:=bZ5.lt
 have fZ5:=bZ5.frozen
 have HBZ5:=hd_ bZ5
 have HBV5:=hd_ bV5
 have HT5:=hd_ (HT3.out.ext h5)
 clear kV3 zV3 kZ3 zZ3 fZ3 hb4 hb5 hS bV5 bZ5 ho5
 go_wp2_with fail
 have HZ7:=hd_ (HBZ5.out.set7 (.slice pA pn pc) (.slice rA rn rc) (.slice tA tn tc) (.slice sA sn sc) (.int .i64 kn) (.slice (some ⟨B,0,none⟩) tn Tc) (.slice none 0 0))
 have HT7:=hd_ (HT5.out.other7 (show B≠w.heap.size+1 by omega) (.slice pA pn pc) (.slice rA rn rc) (.slice tA tn tc) (.slice sA sn sc) (.int .i64 kn) (.slice (some ⟨B,0,none⟩) tn Tc) (.slice none 0 0))
 have HB7:Below w.heap.size w (((((((w5.setCell ⟨w.heap.size+1,0,none⟩ (.slice pA pn pc)).setCell ⟨w.heap.size+1,1,none⟩ (.slice rA rn rc)).setCell ⟨w.heap.size+1,2,none⟩ (.slice tA tn tc)).setCell ⟨w.heap.size+1,3,none⟩ (.slice sA sn sc)).setCell ⟨w.heap.size+1,4,none⟩ (.int .i64 kn)).setCell ⟨w.heap.size+1,5,none⟩ (.slice (some ⟨B,0,none⟩) tn Tc)).setCell ⟨w.heap.size+1,6,none⟩ (.slice none 0 0)):=below_set7 HB5 (Nat.le_succ _) _ _ _ _ _ _ _
 obtain ⟨W7,hW7⟩:∃ W7,(((((((w5.setCell ⟨w.heap.size+1,0,none⟩ (.slice pA pn pc)).setCell ⟨w.heap.size+1,1,none⟩ (.slice rA rn rc)).setCell ⟨w.heap.size+1,2,none⟩ (.slice tA tn tc)).setCell ⟨w.heap.size+1,3,none⟩ (.slice sA sn sc)).setCell ⟨w.heap.size+1,4,none⟩ (.int .i64 kn)).setCell ⟨w.heap.size+1,5,none⟩ (.slice (some ⟨B,0,none⟩) tn Tc)).setCell ⟨w.heap.size+1,6,none⟩ (.slice none 0 0))=W7:=⟨_,rfl⟩
 rw [hW7] at HT7 HZ7 HB7 ⊢
 clear hW7 kZ5 zZ5 fZ5 kV5 zV5 fV5
 have kZ:=HZ7.out.cell
 have zZ:=HZ7.out.lt
 refine bodyPost_ret (v:=.tuple #[.agg #[.slice pA pn pc,.slice rA rn rc,.slice tA tn tc,.slice sA sn sc,.int .i64 kn,.slice (some ⟨B,0,none⟩) tn Tc,.slice none 0 0],.int .i64 27]) ?_ rfl ?_
 ·(simp [results,Tryz.f113,go_sem];try go_simp)
 ·first | exact ⟨_,_,rfl,HB7⟩ | exact ⟨⟨_,_,rfl⟩,HB7⟩
set_option maxRecDepth 10000 in
theorem r_sound0 (l:Led) (x:Lsl) (kn:Int) (w:World) (hl:LedOk l) (hd:LedIn w w.heap.size x l) (ho:firstP (refD l (tellK l kn l.rt.length) kn) l.rc=none) (hR:(refL l (tellK l kn l.rt.length) kn (cntS l kn) (byL l kn)).2=true) :
 Calls Tryz.prog 113 #[.agg #[.slice x.pA x.pn x.pc,.slice x.rA x.rn x.rc,.slice x.tA x.tn x.tc,.slice x.sA x.sn x.sc],.int .i64 kn] w (fun e w'=>∃ B Tc A5 c5,e=.returned (.tuple #[.agg #[.slice x.pA x.pn x.pc,.slice x.rA x.rn x.rc,.slice x.tA x.tn x.tc,.slice x.sA x.sn x.sc,.int .i64 kn,.slice (some ⟨B,0,none⟩) x.tn Tc,.slice A5 x.tn c5],.int .i64 0])∧Below w.heap.size w w'∧BoxA w' B 4 (boolL (tellK l kn l.rt.length)).toArray∧w.heap.size≤B∧w'.ownsRow w.heap.size 34 2 (.slice A5 x.tn c5) x.tn (folCells (refL l (tellK l kn l.rt.length) kn (cntS l kn) (byL l kn)).1)):=by
 obtain ⟨pA,pn,pc,rA,rn,rc,tA,tn,tc,sA,sn,sc⟩:=x
 have HD:=hd_ hd
 have HLO:=hd_ hl
 have HO:=hd_ ho
 clear ho
 obtain ⟨⟨R1,R2⟩,hRR⟩:∃ R,refL l (tellK l kn l.rt.length) kn (cntS l kn) (byL l kn)=R:=⟨_,rfl⟩
 rw [hRR] at hR
 have hR:R2=true:=hR
 subst hR
 have HRR:=hd_ hRR
 clear hRR
 clear hd hl
 go_enter Tryz.func113,Tryz.ntmps113
 have BZ0:Hid (BoxA ((w.alloc (.cells #[.slice pA pn pc,.slice rA rn rc,.slice tA tn tc,.slice sA sn sc] 27)).alloc (.cells #[.slice none 0 0,.slice none 0 0,.slice none 0 0,.slice none 0 0,.int .i64 0,.slice none 0 0,.slice none 0 0] 127)) (w.heap.size+1) 127 #[.slice none 0 0,.slice none 0 0,.slice none 0 0,.slice none 0 0,.int .i64 0,.slice none 0 0,.slice none 0 0]):=by
  show BoxA _ _ _ _
  have h:=BoxA.new (w.alloc (.cells #[.slice pA pn pc,.slice rA rn rc,.slice tA tn tc,.slice sA sn sc] 27)) 127 #[.slice none 0 0,.slice none 0 0,.slice none 0 0,.slice none 0 0,.int .i64 0,.slice none 0 0,.slice none 0 0]
  simpa using h
 go_wp2_with (first | (go_at_call 105;refine (r_look l ⟨pA,pn,pc,rA,rn,rc,tA,tn,tc,sA,sn,sc⟩ kn _ HLO.out (HD.out.now (by exact bel_))).mono ?_;rintro e w2 ⟨B,Tc,rfl,hb2,hT,hBB⟩;have HB2:Below w.heap.size w w2:=bt_ (by exact bel_) hb2;have hs2:=HB2.size;have bZ2:=BZ0.out.ext hb2;have kZ2:=bZ2.cell;have zZ2:=bZ2.lt;have fZ2:=bZ2.frozen;have hBB1:w.heap.size+1+1≤B:=(by have h:=hBB;simp only [World.size_alloc] at h;exact h);have zT:=hT.lt;have HT:=hd_ hT;clear hT hb2 hBB) | (go_at_call 106;refine (r_doubles_v l ⟨⟨pA,pn,pc,rA,rn,rc,tA,tn,tc,sA,sn,sc⟩,kn,some ⟨B,0,none⟩,tn,Tc,none,0,0⟩ (tellK l kn l.rt.length) none _ HLO.out rfl (HD.out.now (by exact bel_)) ((HT.out.alloc _).sqT (by rw [tellK_len];exact HD.out.t.len) (by simp;omega)) HO.out).mono ?_;rintro e w3 ⟨A3,n3,c3,rfl,hb3,hr3,hc3⟩;obtain rfl:n3=0:=hr3.len.symm;have HB3:Below w.heap.size w w3:=bt_ (by exact bel_) hb3;have hs3:=HB3.size;have bV3:=(BoxA.new w2 127 #[.slice pA pn pc,.slice rA rn rc,.slice tA tn tc,.slice sA sn sc,.int .i64 kn,.slice (some ⟨B,0,none⟩) tn Tc,.slice none 0 0]).ext hb3;have kV3:=bV3.cell;have zV3:=bV3.lt;have bZ3:=(bZ2.alloc _).ext hb3;have kZ3:=bZ3.cell;have zZ3:=bZ3.lt;have fZ3:=bZ3.frozen;have HT3:=hd_ ((HT.out.alloc (.cells #[.slice pA pn pc,.slice rA rn rc,.slice tA tn tc,.slice sA sn sc,.int .i64 kn,.slice (some ⟨B,0,none⟩) tn Tc,.slice none 0 0] 127)).ext hb3);have HBZ3:=hd_ bZ3;have HBV3:=hd_ bV3;have hzz2:w.heap.size+1<w2.heap.size:=zZ2;clear bZ3 bV3 hb3 hr3 hc3 kZ2 zZ2 fZ2))
 have HSI:Hid (∀ W:World,Below w3.heap.size w3 W→Calls Tryz.prog 110 #[.agg #[.slice pA pn pc,.slice rA rn rc,.slice tA tn tc,.slice sA sn sc,.int .i64 kn,.slice (some ⟨B,0,none⟩) tn Tc,.slice none 0 0]] W (RetO (sgN l.sg kn l.sg.length) W)):=by
  show ∀ _,_
  exact fun W hW=>r_sights l ⟨⟨pA,pn,pc,rA,rn,rc,tA,tn,tc,sA,sn,sc⟩,kn,some ⟨B,0,none⟩,tn,Tc,none,0,0⟩ W (by have h:=HD.out.s.len;have h2:=HLO.out.sn;show sn≤1000000;dsimp only at h;omega) (HD.out.now (HB3.trans (hW.mono hs3)))
 have HDY:Hid (∀ (W:World) (A:Option Addr) (m c:Nat),Below w3.heap.size w3 W→m≤1000000→Is W W.heap.size A m (sgN l.sg kn l.sg.length)→Calls Tryz.prog 167 #[.agg #[.slice pA pn pc,.slice rA rn rc,.slice tA tn tc,.slice sA sn sc,.int .i64 kn,.slice (some ⟨B,0,none⟩) tn Tc,.slice none 0 0],.slice A m c] W (RetNr (R1,true) tn W)):=by
  show ∀ _,_
  intro W A m c hW hm hI
  have h:=r_days l ⟨⟨pA,pn,pc,rA,rn,rc,tA,tn,tc,sA,sn,sc⟩,kn,some ⟨B,0,none⟩,tn,Tc,none,0,0⟩ (sgN l.sg kn l.sg.length) (cntS l kn) A m c W HLO.out rfl (HD.out.now (HB3.trans (hW.mono hs3))) (((HT3.out.ext hW).sqT (by rw [tellK_len];exact HD.out.t.len) (HT3.out.ext hW).lt)) hm hI (sgN_pos _ _ _) (sgN_cnt l kn)
  dsimp only at h
  rw [HRR.out] at h
  exact h
 have hnl:=sgN_len l.sg kn l.sg.length
 have hn60:l.sg.length≤60:=HLO.out.sn
 go_wp2_with fail
 (refine wp_region_bheld 9 (by kernel_rfl) rfl (fun hS=>?_);simp only [List.reduceReplicate,Array.replicate_succ,Array.replicate_zero])
 (refine tk_ (i:=0) (v:=?_) rfl ?_ hS ?_;rotate_left;focus (intro w2 hw2;obtain ⟨hc2,hf2⟩:=bcell hw2;go_simp;first | done | with_reducible rfl);(try simp only [Act.put,pu1,pu2,pu3]))
 (refine tk_ (i:=1) (v:=?_) rfl ?_ hS ?_;rotate_left;focus (intro w2 hw2;obtain ⟨hc2,hf2⟩:=bcell hw2;go_simp;first | done | with_reducible rfl);(try simp only [Act.put,pu1,pu2,pu3]))
 refine rd_ [2] ?_
 refine ah1 rfl fun K hK=>?_
 (go_simp;refine (HSI.out _ (by exact bel_)).mono ?_;rintro e w4 ⟨v4,rfl,hb4,ho4⟩;obtain ⟨A4,c4,rfl,hcc4⟩:=own_slice ho4;go_simp)
 have h4:Below w3.heap.size w3 w4:=bt_ hS hb4
 have HI4:Hid (Is w4 w4.heap.size A4 (sgN l.sg kn l.sg.length).length (sgN l.sg kn l.sg.length)):=by show Is _ _ _ _ _;exact Rd.of_own ho4
 refine hK.out _ _ h4 (fun hS=>?_)
 clear hK K ho4
 (try simp only [Act.put,pu1,pu2,pu3])
 refine rd_ [3] ?_
 refine ah1 rfl fun K hK=>?_
 (go_simp;refine (HDY.out _ _ _ _ h4 (by omega) HI4.out).mono ?_;rintro e w5 ⟨A5,c5,rfl,hb5,ho5⟩;go_simp)
 have h5:Below w3.heap.size w3 w5:=bt_ h4 hb5
 refine hK.out _ _ h5 (fun hS=>?_)
 clear hK K
 (try simp only [Act.put,pu1,pu2,pu3])
 (refine tk_ (i:=4) (v:=?_) rfl ?_ hS ?_;rotate_left;focus (intro w2 hw2;obtain ⟨hc2,hf2⟩:=bcell hw2;go_simp;first | done | with_reducible rfl);(try simp only [Act.put,pu1,pu2,pu3]))
 (refine tk_ (i:=5) (v:=?_) rfl ?_ hS ?_;rotate_left;focus (intro w2 hw2;obtain ⟨hc2,hf2⟩:=bcell hw2;go_simp;first | done | with_reducible rfl);(try simp only [Act.put,pu1,pu2,pu3]))
 (refine tk_ (i:=6) (v:=?_) rfl ?_ hS ?_;rotate_left;focus (intro w2 hw2;obtain ⟨hc2,hf2⟩:=bcell hw2;go_simp;first | done | with_reducible rfl);(try simp only [Act.put,pu1,pu2,pu3]))
 (refine tk_ (i:=7) (v:=?_) rfl ?_ hS ?_;rotate_left;focus (intro w2 hw2;obtain ⟨hc2,hf2⟩:=bcell hw2;go_simp;first | done | with_reducible rfl);(try simp only [Act.put,pu1,pu2,pu3]))
 (refine tk_ (i:=8) (v:=?_) rfl ?_ hS ?_;rotate_left;focus (intro w2 hw2;obtain ⟨hc2,hf2⟩:=bcell hw2;go_simp;first | done | with_reducible rfl);(try simp only [Act.put,pu1,pu2,pu3]))
 refine wpAnyH_done (by kernel_rfl) ?_ _
 have HO5:=hd_ ho5
 have HB5:=HB3.trans (h5.mono hs3)
 have hs5:=HB5.size
 have bV5:=HBV3.out.ext h5
 have bZ5:=HBZ3.out.ext h5
 have kV5:=bV5.cell
 have zV5:=bV5.lt
 have fV5:=bV5.frozen
 have kZ5:=bZ5.cell
 have zZ5:=bZ5.lt
 have fZ5:=bZ5.frozen
 have HBZ5:=hd_ bZ5
 have HBV5:=hd_ bV5
 have HT5:=hd_ (HT3.out.ext h5)
 clear kV3 zV3 kZ3 zZ3 fZ3 hb4 hb5 hS bV5 bZ5 ho5
 have bZ8:=HBZ5.out.other (show w.heap.size+1≠w2.heap.size by omega) (.slice A5 tn c5) (p:=⟨w2.heap.size,6,none⟩)
 have bV8:=HBV5.out.set 6 (.slice A5 tn c5)
 simp only [List.setIfInBounds_toArray,List.set_cons_zero,List.set_cons_succ] at bV8
 have HT8:=hd_ (HT5.out.other (show B≠w2.heap.size by omega) (.slice A5 tn c5) (p:=⟨w2.heap.size,6,none⟩))
 have hw24:w2.heap.size<w4.heap.size:=by have h:=HBV3.out.lt;have h2:=h4.size;omega
 have hwz4:w.heap.size+1<w4.heap.size:=by omega
 have HO8:=hd_ (own_setB (o:=6) HO5.out hw24 (.slice A5 tn c5))
 have HB8:Below w.heap.size w (w5.setCell ⟨w2.heap.size,6,none⟩ (.slice A5 tn c5)):=HB5.setCell (show w.heap.size≤w2.heap.size by omega) _
 have HBZ8:=hd_ bZ8
 have HBV8:=hd_ bV8
 clear bZ8 bV8
 go_wp2_with fail
 have HO9:Hid (World.ownsRow ((((((((w5.setCell ⟨w2.heap.size,6,none⟩ (.slice A5 tn c5)).setCell ⟨w.heap.size+1,0,none⟩ (.slice pA pn pc)).setCell ⟨w.heap.size+1,1,none⟩ (.slice rA rn rc)).setCell ⟨w.heap.size+1,2,none⟩ (.slice tA tn tc)).setCell ⟨w.heap.size+1,3,none⟩ (.slice sA sn sc)).setCell ⟨w.heap.size+1,4,none⟩ (.int .i64 kn)).setCell ⟨w.heap.size+1,5,none⟩ (.slice (some ⟨B,0,none⟩) tn Tc)).setCell ⟨w.heap.size+1,6,none⟩ (.slice A5 tn c5)) w4.heap.size 34 2 (.slice A5 tn c5) tn (folCells R1)):=by
  show World.ownsRow _ _ _ _ _ _ _
  exact own_setB (own_setB (own_setB (own_setB (own_setB (own_setB (own_setB HO8.out hwz4 _) hwz4 _) hwz4 _) hwz4 _) hwz4 _) hwz4 _) hwz4 _
 have HZ7:=hd_ (HBZ8.out.set7 (.slice pA pn pc) (.slice rA rn rc) (.slice tA tn tc) (.slice sA sn sc) (.int .i64 kn) (.slice (some ⟨B,0,none⟩) tn Tc) (.slice A5 tn c5))
 have HT7:=hd_ (HT8.out.other7 (show B≠w.heap.size+1 by omega) (.slice pA pn pc) (.slice rA rn rc) (.slice tA tn tc) (.slice sA sn sc) (.int .i64 kn) (.slice (some ⟨B,0,none⟩) tn Tc) (.slice A5 tn c5))
 have HB7:Below w.heap.size w ((((((((w5.setCell ⟨w2.heap.size,6,none⟩ (.slice A5 tn c5)).setCell ⟨w.heap.size+1,0,none⟩ (.slice pA pn pc)).setCell ⟨w.heap.size+1,1,none⟩ (.slice rA rn rc)).setCell ⟨w.heap.size+1,2,none⟩ (.slice tA tn tc)).setCell ⟨w.heap.size+1,3,none⟩ (.slice sA sn sc)).setCell ⟨w.heap.size+1,4,none⟩ (.int .i64 kn)).setCell ⟨w.heap.size+1,5,none⟩ (.slice (some ⟨B,0,none⟩) tn Tc)).setCell ⟨w.heap.size+1,6,none⟩ (.slice A5 tn c5)):=below_set7 HB8 (Nat.le_succ _) _ _ _ _ _ _ _
 obtain ⟨W7,hW7⟩:∃ W7,((((((((w5.setCell ⟨w2.heap.size,6,none⟩ (.slice A5 tn c5)).setCell ⟨w.heap.size+1,0,none⟩ (.slice pA pn pc)).setCell ⟨w.heap.size+1,1,none⟩ (.slice rA rn rc)).setCell ⟨w.heap.size+1,2,none⟩ (.slice tA tn tc)).setCell ⟨w.heap.size+1,3,none⟩ (.slice sA sn sc)).setCell ⟨w.heap.size+1,4,none⟩ (.int .i64 kn)).setCell ⟨w.heap.size+1,5,none⟩ (.slice (some ⟨B,0,none⟩) tn Tc)).setCell ⟨w.heap.size+1,6,none⟩ (.slice A5 tn c5))=W7:=⟨_,rfl⟩
 rw [hW7] at HT7 HZ7 HB7 HO9 ⊢
 clear hW7 kZ5 zZ5 fZ5 kV5 zV5 fV5
 have kZ:=HZ7.out.cell
 have zZ:=HZ7.out.lt
 refine bodyPost_ret (v:=.tuple #[.agg #[.slice pA pn pc,.slice rA rn rc,.slice tA tn tc,.slice sA sn sc,.int .i64 kn,.slice (some ⟨B,0,none⟩) tn Tc,.slice A5 tn c5],.int .i64 0]) ?_ rfl ?_
 ·(simp [results,Tryz.f113,go_sem];try go_simp)
 ·refine ⟨_,_,_,_,rfl,HB7,HT7.out,by omega,?_⟩
  rw [HRR.out]
  exact own_dn HO9.out (by omega)
end Go.Proofs.YtoiompoapikkbaaGreat
namespace Go.Proofs.YtoiompoapikkbaaGreat
open Go.RowKit
end Go.Proofs.YtoiompoapikkbaaGreat
