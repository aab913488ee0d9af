/- Layer 2 of the texts that LoanPlaces takes: Pbzq. -/
import Derived.Test.YtoiompoapikkbaaGreatPbyq
set_option linter.unusedVariables false
set_option linter.unusedSimpArgs false
set_option maxHeartbeats 16000000
namespace Go.Proofs.YtoiompoapikkbaaGreat
open Go.RowKit Go.Maps
theorem val_pair {α:Type} {num:α->Int} {ok:α->Bool} {most:Nat} {l:List α} (h:valB num ok most l=true):l.Pairwise fun x y=>num x<num y:=by
 rw [valB,Bool.and_eq_true] at h
 have qq:∀ j (h1:j+1<l.length),num (l[j]'(by omega))<num l[j+1]:=fun j h1=>by
  have h2:=List.all_eq_true.1 h.2 (j+1) (List.mem_range.2 h1)
  have e1:l[j+1]?=some l[j+1]:=List.getElem?_eq_getElem h1
  have e2:l[j]?=some (l[j]'(by omega)):=List.getElem?_eq_getElem (by omega)
  simp only [valAt,e1,e2,Bool.and_eq_true,decide_eq_true_eq] at h2
  exact h2.2
 rw [List.pairwise_iff_getElem]
 intro i j hi hj u8
 obtain ⟨d,rfl⟩:∃ d,j=i+d+1:=⟨j - i - 1,by omega⟩
 clear u8
 induction d with
 | zero=>exact qq i hj
 | succ d ih=>exact Int.lt_trans (ih (by omega)) (qq (i+d+1) (by omega))
theorem val_mk {α:Type} {num:α->Int} {ok:α->Bool} {most:Nat} {l:List α} (h1:l.length<=most) (h2:∀ x∈l,ok x=true) (h3:l.Pairwise fun x y=>num x<num y):valB num ok most l=true:=by
 rw [valB,Bool.and_eq_true,decide_eq_true_eq]
 refine ⟨h1,List.all_eq_true.2 fun k hk=>?_⟩
 have hk:=List.mem_range.1 hk
 have hp:=List.pairwise_iff_getElem.1 h3
 cases k with
 | zero =>
   have e1:l[0]?=some l[0]:=List.getElem?_eq_getElem hk
   simp only [valAt,e1]
   exact h2 _ (List.getElem_mem _)
 | succ j =>
   have e1:l[j+1]?=some l[j+1]:=List.getElem?_eq_getElem hk
   have e2:l[j]?=some (l[j]'(by omega)):=List.getElem?_eq_getElem (by omega)
   simp only [valAt,e1,e2,Bool.and_eq_true,decide_eq_true_eq]
   exact ⟨h2 _ (List.getElem_mem _),hp j (j+1) (by omega) hk (by omega)⟩
theorem val_lenX {α:Type} {num:α->Int} {ok:α->Bool} {most:Nat} {l:List α} (h:valB num ok most l=true):l.length<=most:=by
 rw [valB,Bool.and_eq_true,decide_eq_true_eq] at h
 exact h.1
theorem val_filter {α:Type} {num:α->Int} {ok:α->Bool} {most:Nat} {l:List α} (h:valB num ok most l=true) (p:α->Bool):valB num ok most (l.filter p)=true :=
 val_mk (Nat.le_trans (List.length_filter_le _ _) (val_lenX h)) (fun x hx=>val_all h x (List.mem_filter.1 hx).1) ((val_pair h).filter p)
theorem ledB_exc {l:Led} (h:ledB l=true) (s:Int):ledB (excL l s)=true:=by
 simp only [ledB,Bool.and_eq_true,decide_eq_true_eq] at h ⊢
 obtain ⟨h1,h2,h3,h4,h5,h6⟩:=h
 refine ⟨h1,val_filter h2 _,val_filter h3 _,val_filter h4 _,?_,?_⟩
 ·exact h5.sublist ((List.filter_sublist.map _).append ((List.filter_sublist.map _).append (List.filter_sublist.map _)))
 ·rw [folsB,List.all_eq_true] at h6 ⊢
  intro f hf
  refine h6 f ?_
  simp only [namL,List.mem_append,List.mem_flatMap,List.mem_map] at hf ⊢
  rcases hf with ⟨r,hr,hf⟩ | ⟨r,hr,hf⟩
  ·exact .inl ⟨r,(List.mem_filter.1 hr).1,hf⟩
  ·exact .inr ⟨r,(List.mem_filter.1 hr).1,hf⟩
theorem toldW_len (l:Led) (kn day:Int) (f:Int × Int):(toldW l kn day f).length<=2:=by
 unfold toldW
 split
 ·exact whL_len l kn day f
 ·simp
structure TldAt (W:World) (A:Option Addr) (n:Nat) (T:List (List Int)) (rs:List Rw):Prop where
 rd:Rd W W.heap.size 1 A n (rs.map Rw.v)
 xs:rs.map Rw.xs=T
 at_is:∀ r∈rs,Is W W.heap.size r.A r.n r.xs
theorem TldAt.ext {W W':World} {A:Option Addr} {n:Nat} {T:List (List Int)} {rs:List Rw} (h:TldAt W A n T rs) (hb:Below W.heap.size W W'):TldAt W' A n T rs :=
 ⟨(Rd.ext h.rd hb lr_).more hb.size,h.xs,fun r hr=>(h.at_is r hr).now hb⟩
theorem TldAt.at_ {W:World} {A:Option Addr} {n k:Nat} {fs:List (Int × Int)} {f:Int × Int} {WF:Int × Int->List Int} {rs:List Rw} (h:TldAt W A n (fs.map WF) rs) (hf:fs[k]?=some f) (hk:k<n) :
 ∃ (b o:Nat) (r:Rw),A=some ⟨b,o,none⟩/\b<W.heap.size/\W.cell? ⟨b,o+k,none⟩=some r.v/\r.xs=WF f/\Is W W.heap.size r.A r.n r.xs:=by
 obtain ⟨b,o,e,hb,hc⟩:=h.rd.2 (by omega)
 have h1:(rs.map Rw.xs)[k]?=some (WF f):=by rw [h.xs,List.getElem?_map,hf];rfl
 rw [List.getElem?_map] at h1
 obtain ⟨r,hr,hx⟩:=Option.map_eq_some_iff.1 h1
 exact ⟨b,o,r,e,hb,hc k r.v (by rw [List.getElem?_map,hr];rfl),hx,h.at_is r (List.mem_of_getElem? hr)⟩
def movP (l:Led) (src day kn:Int) (f:Int × Int):Bool:=!decide (setE l kn=setE (excL l src) kn) || !decide (toldW l kn day f=toldW (excL l src) kn day f)
theorem mov_ref {l:Led} {src day kn:Int} (h1:preE l [day,kn]=0) (h2:src∈srcL l):movX l src day kn=((folL l.pp).filter (movP l src day kn),0):=by
 rw [movX,if_pos h1,if_pos h2]
 by_cases he:setE l kn=setE (excL l src) kn
 ·rw [if_pos he]
  by_cases h0:setE l kn=0
  ·rw [if_pos h0,movL]
   congr 1
   congr 1
   funext f
   have uv:setE (excL l src) kn=0:=by rw [<- he];exact h0
   simp [movP,he,toldW,uv]
  ·rw [if_neg h0]
   have uv:¬ setE (excL l src) kn=0:=by rw [<- he];exact h0
   congr 1
   symm
   rw [List.filter_eq_nil_iff]
   intro f _
   simp [movP,he,toldW,uv]
 ·rw [if_neg he]
  congr 1
  symm
  rw [List.filter_eq_self]
  intro f _
  simp [movP,he]
set_option maxRecDepth 100000 in
theorem r_Moved (l:Led) (x:Lsl) (day kn pap leaf per src:Int) (w:World) (hf:x.fit) (hd:LedIn w w.heap.size x l) :
 Calls Tryz.prog 50 #[.agg #[.slice x.pA x.pn x.pc,.slice x.rA x.rn x.rc,.slice x.tA x.tn x.tc,.slice x.sA x.sn x.sc],.agg #[.int .i64 day,.int .i64 kn,.int .i64 pap,.int .i64 leaf,.int .i64 per,.int .i64 src]] w (RetFE (movX l src day kn) w):=by
 obtain ⟨pA,pn,pc,rA,rn,rc,tA,tn,tc,sA,sn,sc⟩:=x
 have kj:l.rc.length=rn:=hd.r.len
 have q8:l.rt.length=tn:=hd.t.len
 have q9:l.sg.length=sn:=hd.s.len
 have qY:l.pp.length=pn:=hd.p.len
 have HD:=hd_ hd
 have HF:=hd_ hf
 clear hd hf
 have B2:=box2 w 27 62 #[.slice pA pn pc,.slice rA rn rc,.slice tA tn tc,.slice sA sn sc] #[.int .i64 day,.int .i64 kn,.int .i64 pap,.int .i64 leaf,.int .i64 per,.int .i64 src]
 have BL0:=hd_ B2.1
 have BA0:=hd_ B2.2
 clear B2
 obtain ⟨v,hv⟩:∃ v,preE l [day,kn]=v:=⟨_,rfl⟩
 have HV:=hd_ hv
 by_cases u4:v=0
 rotate_left
 ·have gy:movX l src day kn=([],v):=by rw [movX,if_neg (by rw [hv];exact u4),hv]
  rw [gy]
  have y2:(v != 0)=true:=by simpa using u4
  clear gy hv u4 kj q8 q9 qY
  go_enter Tryz.func50,Tryz.ntmps50
  go_wp2_with (go_at_call 102;refine (r_asked_v l ⟨pA,pn,pc,rA,rn,rc,tA,tn,tc,sA,sn,sc⟩ [day,kn] v _ 2 2 _ HF.out (HD.out.now (by exact bel_)) (by decide) (Rd.new _ #[.int .i64 day,.int .i64 kn] _ 1 2 _ (by simp) rfl) HV.out).mono ?_;rintro e w1 ⟨rfl,g3⟩;have g9:Below w.heap.size w w1:=bt_ (by exact bel_) g3;have j4:=g9.size;have g5:=(BL0.out.alloc _).ext g3;have k9:=g5.cell;have k5:=g5.lt;have g6:=(BA0.out.alloc _).ext g3;have k6:=g6.cell;have k7:=g6.lt;clear g3)
  go_ret2
  exact RetFE.err (by exact bel_)
 subst u4
 have u5:=(pre_zero hv).1
 have v9:=hd_ u5
 have j2:=hd_ (led_ok u5)
 have kY:rn<=60:=by have:=j2.out.rn;omega
 have qy:tn<=60:=by have:=j2.out.tn;omega
 have q3:sn<=60:=by have:=j2.out.sn;omega
 have jq:pn<=12:=by have:=j2.out.pn;omega
 have xY:(srcL l).length<=180:=by simp [srcL];omega
 have jX:Hid (∀ W:World,Below w.heap.size w W->Calls Tryz.prog 66 #[.agg #[.slice pA pn pc,.slice rA rn rc,.slice tA tn tc,.slice sA sn sc]] W (RetO (srcL l) W)):=by
  show ∀ _,_
  exact fun W hW=>r_sources l ⟨pA,pn,pc,rA,rn,rc,tA,tn,tc,sA,sn,sc⟩ W kY qy q3 (HD.out.now hW)
 clear kj q8 q9 qY
 cases gj:decide (src∈srcL l) with
 | false =>
   have gy:movX l src day kn=([],3):=by rw [movX,if_pos hv,if_neg (of_decide_eq_false gj)]
   rw [gy]
   have HQ:=hd_ gj
   clear gy hv u5 gj
   go_enter Tryz.func50,Tryz.ntmps50
   go_wp2_with (go_at_call 102;refine (r_asked_v l ⟨pA,pn,pc,rA,rn,rc,tA,tn,tc,sA,sn,sc⟩ [day,kn] 0 _ 2 2 _ HF.out (HD.out.now (by exact bel_)) (by decide) (Rd.new _ #[.int .i64 day,.int .i64 kn] _ 1 2 _ (by simp) rfl) HV.out).mono ?_;rintro e w1 ⟨rfl,g3⟩;have g9:Below w.heap.size w w1:=bt_ (by exact bel_) g3;have j4:=g9.size;have g5:=(BL0.out.alloc _).ext g3;have k9:=g5.cell;have k5:=g5.lt;have g6:=(BA0.out.alloc _).ext g3;have k6:=g6.cell;have k7:=g6.lt;clear g3)
   (refine wp_region_bheld 6 (by kernel_rfl) rfl (fun hS=>?_);simp only [List.reduceReplicate,Array.replicate_succ,Array.replicate_zero])
   (refine tk_ (i:=0) (v:=?_) rfl ?_ hS ?_;rotate_left;focus (intro w2 g0;obtain ⟨g2,g1⟩:=bcell g0;go_simp;first | done | with_reducible rfl);(try simp only [Act.put,pu1,pu2,pu3]))
   (refine tk_ (i:=2) (v:=?_) rfl ?_ hS ?_;rotate_left;focus (intro w2 g0;obtain ⟨g2,g1⟩:=bcell g0;go_simp;first | done | with_reducible rfl);(try simp only [Act.put,pu1,pu2,pu3]))
   (refine tk_ (i:=3) (v:=?_) rfl ?_ hS ?_;rotate_left;focus (intro w2 g0;obtain ⟨g2,g1⟩:=bcell g0;go_simp;first | done | with_reducible rfl);(try simp only [Act.put,pu1,pu2,pu3]))
   refine rd_ [1] ?_
   refine ah1 rfl fun K hK=>?_
   (go_simp;refine (jX.out _ (g9.trans (hS.mono j4))).mono ?_;rintro e w2 ⟨v2,rfl,jv,gJ⟩;obtain ⟨A2,c2,rfl,kQ⟩:=own_slice gJ;go_simp)
   have h2:Below w1.heap.size w1 w2:=bt_ hS jv
   have qJ:Hid (Is w2 w2.heap.size A2 (srcL l).length (srcL l)):=by show Is _ _ _ _ _;exact Rd.of_own gJ
   refine hK.out _ _ h2 (fun hS=>?_)
   clear hK K gJ
   (try simp only [Act.put,pu1,pu2,pu3])
   refine rd_ [4] ?_
   refine ah1 rfl fun K hK=>?_
   (go_simp;refine (r_Has2_v (srcL l) src false A2 _ c2 _ (by omega) qJ.out HQ.out).mono ?_;rintro e w3 ⟨rfl,jj⟩;go_simp)
   have h3:Below w1.heap.size w1 w3:=bt_ h2 jj
   refine hK.out _ _ h3 (fun hS=>?_)
   clear hK K
   (try simp only [Act.put,pu1,pu2,pu3])
   (refine tk_ (i:=5) (v:=?_) rfl ?_ hS ?_;rotate_left;focus (intro w2 g0;obtain ⟨g2,g1⟩:=bcell g0;go_simp;first | done | with_reducible rfl);(try simp only [Act.put,pu1,pu2,pu3]))
   refine wpAnyH_done (by kernel_rfl) ?_ _
   have qQ:Below w.heap.size w w3:=g9.trans (h3.mono j4)
   have x2:=qQ.size
   have gY:=g5.ext h3
   have u2:=gY.cell
   have u7:=gY.lt
   have j0:=g6.ext h3
   have u6:=j0.cell
   have u9:=j0.lt
   clear jv jj h2 h3 hS k9 k5 k6 k7 g5 g6
   go_wp2_with fail
   go_ret2
   exact RetFE.err (by exact bel_)
 | true =>
   rw [mov_ref hv (of_decide_eq_true gj)]
   have HQ:=hd_ gj
   obtain ⟨p,hp⟩:∃ p,movP l src day kn=p:=⟨_,rfl⟩
   have HP:Hid (∀ f,(!decide (setE l kn=setE (excL l src) kn) || !decide (toldW l kn day f=toldW (excL l src) kn day f))=p f):=by show ∀ _,_;intro f;rw [<- hp];rfl
   rw [hp]
   obtain ⟨i0,hi,vj,vy,vJ⟩:=info_parts infoFol
   have vQ:=folL_len j2.out
   clear hv u5 gj hp
   obtain ⟨ee,v1⟩:∃ ee,setE l kn=ee:=⟨_,rfl⟩
   obtain ⟨eg,v6⟩:∃ eg,setE (excL l src) kn=eg:=⟨_,rfl⟩
   rw [v1,v6] at HP
   have xq:=hd_ v1
   have x6:=hd_ v6
   clear v1 v6
   have jx:Hid (∀ W:World,Below w.heap.size w W->Calls Tryz.prog 142 #[.agg #[.slice pA pn pc,.slice rA rn rc,.slice tA tn tc,.slice sA sn sc],.agg #[.int .i64 day,.int .i64 kn,.int .i64 pap,.int .i64 leaf,.int .i64 per,.int .i64 src]] W (RetTold ((folL l.pp).map (toldW l kn day)) ee W)):=by
    show ∀ _,_
    intro W hW
    have h:=r_told l ⟨pA,pn,pc,rA,rn,rc,tA,tn,tc,sA,sn,sc⟩ day kn pap leaf per src W v9.out (HD.out.now hW)
    rw [xq.out] at h
    exact h
   have ju:Hid (∀ (y:Lsl) (W:World),LedIn W W.heap.size y (excL l src)->Calls Tryz.prog 142 #[.agg #[.slice y.pA y.pn y.pc,.slice y.rA y.rn y.rc,.slice y.tA y.tn y.tc,.slice y.sA y.sn y.sc],.agg #[.int .i64 day,.int .i64 kn,.int .i64 pap,.int .i64 leaf,.int .i64 per,.int .i64 src]] W (RetTold ((folL l.pp).map (toldW (excL l src) kn day)) eg W)):=by
    show ∀ _,_
    intro y W hW
    have h:=r_told (excL l src) y day kn pap leaf per src W (ledB_exc v9.out src) hW
    rw [x6.out] at h
    exact h
   by_cases hq:ee=eg
   ·subst hq
    have xy:(ee != ee)=false:=by simp
    go_enter Tryz.func50,Tryz.ntmps50
    go_wp2_with (go_at_call 102;refine (r_asked_v l ⟨pA,pn,pc,rA,rn,rc,tA,tn,tc,sA,sn,sc⟩ [day,kn] 0 _ 2 2 _ HF.out (HD.out.now (by exact bel_)) (by decide) (Rd.new _ #[.int .i64 day,.int .i64 kn] _ 1 2 _ (by simp) rfl) HV.out).mono ?_;rintro e w1 ⟨rfl,g3⟩;have g9:Below w.heap.size w w1:=bt_ (by exact bel_) g3;have j4:=g9.size;have g5:=(BL0.out.alloc _).ext g3;have k9:=g5.cell;have k5:=g5.lt;have g6:=(BA0.out.alloc _).ext g3;have k6:=g6.cell;have k7:=g6.lt;clear g3)
    (refine wp_region_bheld 6 (by kernel_rfl) rfl (fun hS=>?_);simp only [List.reduceReplicate,Array.replicate_succ,Array.replicate_zero])
    (refine tk_ (i:=0) (v:=?_) rfl ?_ hS ?_;rotate_left;focus (intro w2 g0;obtain ⟨g2,g1⟩:=bcell g0;go_simp;first | done | with_reducible rfl);(try simp only [Act.put,pu1,pu2,pu3]))
    (refine tk_ (i:=2) (v:=?_) rfl ?_ hS ?_;rotate_left;focus (intro w2 g0;obtain ⟨g2,g1⟩:=bcell g0;go_simp;first | done | with_reducible rfl);(try simp only [Act.put,pu1,pu2,pu3]))
    (refine tk_ (i:=3) (v:=?_) rfl ?_ hS ?_;rotate_left;focus (intro w2 g0;obtain ⟨g2,g1⟩:=bcell g0;go_simp;first | done | with_reducible rfl);(try simp only [Act.put,pu1,pu2,pu3]))
    refine rd_ [1] ?_
    refine ah1 rfl fun K hK=>?_
    (go_simp;refine (jX.out _ (g9.trans (hS.mono j4))).mono ?_;rintro e w2 ⟨v2,rfl,jv,gJ⟩;obtain ⟨A2,c2,rfl,kQ⟩:=own_slice gJ;go_simp)
    have h2:Below w1.heap.size w1 w2:=bt_ hS jv
    have qJ:Hid (Is w2 w2.heap.size A2 (srcL l).length (srcL l)):=by show Is _ _ _ _ _;exact Rd.of_own gJ
    refine hK.out _ _ h2 (fun hS=>?_)
    clear hK K gJ
    (try simp only [Act.put,pu1,pu2,pu3])
    refine rd_ [4] ?_
    refine ah1 rfl fun K hK=>?_
    (go_simp;refine (r_Has2_v (srcL l) src true A2 _ c2 _ (by omega) qJ.out HQ.out).mono ?_;rintro e w3 ⟨rfl,jj⟩;go_simp)
    have h3:Below w1.heap.size w1 w3:=bt_ h2 jj
    refine hK.out _ _ h3 (fun hS=>?_)
    clear hK K
    (try simp only [Act.put,pu1,pu2,pu3])
    (refine tk_ (i:=5) (v:=?_) rfl ?_ hS ?_;rotate_left;focus (intro w2 g0;obtain ⟨g2,g1⟩:=bcell g0;go_simp;first | done | with_reducible rfl);(try simp only [Act.put,pu1,pu2,pu3]))
    refine wpAnyH_done (by kernel_rfl) ?_ _
    have qQ:Below w.heap.size w w3:=g9.trans (h3.mono j4)
    have x2:=qQ.size
    have gY:=g5.ext h3
    have u2:=gY.cell
    have u7:=gY.lt
    have j0:=g6.ext h3
    have u6:=j0.cell
    have u9:=j0.lt
    clear jv jj h2 h3 hS k9 k5 k6 k7 g5 g6
    go_wp2_with (go_at_call 142;refine (jx.out _ (by exact bel_)).mono ?_;rintro e w4 ⟨AX,cX,rxs,rfl,j9,jY,gv,qX⟩;have jQ:Below w.heap.size w w4:=bt_ (by exact bel_) j9;have kq:=jQ.size;have j1:=gY.ext j9;have uu:=j1.cell;have uy:=j1.lt;have j6:=j0.ext j9;have uX:=j6.cell;have v5:=j6.lt;have k1:Hid (TldAt w4 AX (folL l.pp).length ((folL l.pp).map (toldW l kn day)) rxs):=(by show TldAt _ _ _ _ _;exact ⟨by rw [List.length_map] at jY;exact Rd.of_own jY,gv,fun r hr=>(qX r hr).is⟩);clear j9 jY gv qX u2 u7 u6 u9)
    (refine wp_region_bheld 11 (by kernel_rfl) rfl (fun hS=>?_);simp only [List.reduceReplicate,Array.replicate_succ,Array.replicate_zero])
    (refine tk_ (i:=0) (v:=?_) rfl ?_ hS ?_;rotate_left;focus (intro w2 g0;obtain ⟨g2,g1⟩:=bcell g0;go_simp;first | done | with_reducible rfl);(try simp only [Act.put,pu1,pu2,pu3]))
    (refine tk_ (i:=1) (v:=?_) rfl ?_ hS ?_;rotate_left;focus (intro w2 g0;obtain ⟨g2,g1⟩:=bcell g0;go_simp;first | done | with_reducible rfl);(try simp only [Act.put,pu1,pu2,pu3]))
    (refine tk_ (i:=2) (v:=?_) rfl ?_ hS ?_;rotate_left;focus (intro w2 g0;obtain ⟨g2,g1⟩:=bcell g0;go_simp;first | done | with_reducible rfl);(try simp only [Act.put,pu1,pu2,pu3]))
    (refine tk_ (i:=4) (v:=?_) rfl ?_ hS ?_;rotate_left;focus (intro w2 g0;obtain ⟨g2,g1⟩:=bcell g0;go_simp;first | done | with_reducible rfl);(try simp only [Act.put,pu1,pu2,pu3]))
    refine rd_ [3] ?_
    refine ah1 rfl fun K hK=>?_
    (go_simp;refine (r_Without l ⟨pA,pn,pc,rA,rn,rc,tA,tn,tc,sA,sn,sc⟩ src _ j2.out (HD.out.now (jQ.trans (hS.mono kq)))).mono ?_;rintro e w5 ⟨y,rfl,qu,-,kX⟩;go_simp)
    have h5:Below w4.heap.size w4 w5:=bt_ hS qu
    refine hK.out _ _ h5 (fun hS=>?_)
    clear hK K
    (try simp only [Act.put,pu1,pu2,pu3])
    refine rd_ [5] ?_
    refine ah1 rfl fun K hK=>?_
    (go_simp;refine (ju.out y _ kX).mono ?_;rintro e w6 ⟨AY,cY,rys,rfl,kv,k3,gQ,ku⟩;go_simp)
    have h6:Below w4.heap.size w4 w6:=bt_ h5 kv
    refine hK.out _ _ h6 (fun hS=>?_)
    clear hK K
    (try simp only [Act.put,pu1,pu2,pu3])
    (refine tk_ (i:=6) (v:=?_) rfl ?_ hS ?_;rotate_left;focus (intro w2 g0;obtain ⟨g2,g1⟩:=bcell g0;go_simp;first | done | with_reducible rfl);(try simp only [Act.put,pu1,pu2,pu3]))
    (refine tk_ (i:=7) (v:=?_) rfl ?_ hS ?_;rotate_left;focus (intro w2 g0;obtain ⟨g2,g1⟩:=bcell g0;go_simp;first | done | with_reducible rfl);(try simp only [Act.put,pu1,pu2,pu3]))
    (refine tk_ (i:=8) (v:=?_) rfl ?_ hS ?_;rotate_left;focus (intro w2 g0;obtain ⟨g2,g1⟩:=bcell g0;go_simp;first | done | with_reducible rfl);(try simp only [Act.put,pu1,pu2,pu3]))
    (refine tk_ (i:=9) (v:=?_) rfl ?_ hS ?_;rotate_left;focus (intro w2 g0;obtain ⟨g2,g1⟩:=bcell g0;go_simp;first | done | with_reducible rfl);(try simp only [Act.put,pu1,pu2,pu3]))
    (refine tk_ (i:=10) (v:=?_) rfl ?_ hS ?_;rotate_left;focus (intro w2 g0;obtain ⟨g2,g1⟩:=bcell g0;go_simp;first | done | with_reducible rfl);(try simp only [Act.put,pu1,pu2,pu3]))
    refine wpAnyH_done (by kernel_rfl) ?_ _
    have v4:Below w.heap.size w w6:=jQ.trans (h6.mono kq)
    have x4:=v4.size
    have q4:=j1.ext h6
    have v8:=q4.cell
    have uY:=q4.lt
    have uQ:=j6.ext h6
    have qj:Hid (TldAt w6 AY (folL l.pp).length ((folL l.pp).map (toldW (excL l src) kn day)) rys):=by show TldAt _ _ _ _ _;exact ⟨by rw [List.length_map] at k3;exact Rd.of_own k3,gQ,fun r hr=>(ku r hr).is⟩
    have kJ:=hd_ (k1.out.ext h6)
    clear qu kv h5 h6 hS kX k3 gQ ku uu uy uX v5 j1 j6
    go_wp2_with (go_at_call 144;refine (r_folios l ⟨pA,pn,pc,rA,rn,rc,tA,tn,tc,sA,sn,sc⟩ _ jq (fun r hr=>j2.out.pp r hr) (HD.out.now (by exact bel_))).mono ?_;rintro e w7 ⟨v7,rfl,gu,k2⟩;obtain ⟨AF,cF,rfl,xx⟩:=own_slice k2;have qv:Below w.heap.size w w7:=bt_ (by exact bel_) gu;have q7:=qv.size;have x9:=uQ.ext gu;have ky:Hid (Sq QF 2 w7 w7.heap.size AF (folL l.pp).length (folL l.pp)):=(by show Sq _ _ _ _ _ _ _;exact sq_of_own k2 rfl);have j7:=hd_ (kJ.out.ext gu);have j8:=hd_ (qj.out.ext gu);clear gu k2 v8 uY)
    obtain ⟨fs,j3⟩:∃ fs,folL l.pp=fs:=⟨_,rfl⟩
    rw [j3] at ky vQ j7 j8
    (try rw [j3])
    have v0:=hd_ j3
    clear j3 kJ qj
    obtain ⟨wv,rfl⟩:∃ wv,wv=w7:=⟨_,rfl⟩
    go_loopw [12,13] (fun v i wr=>∃ k:Nat,k<=fs.length/\i=.int .i64 k/\wr.ownsRow wv.heap.size 60 2 v ((fs.take k).filter p).length (folCells ((fs.take k).filter p))/\Below wv.heap.size wv wr) (fun _ i _=>fs.length - (intOf i).toNat)
    case atStart=>exact ⟨0,by omega,rfl,World.ownsRow_nil _ _ _ _,Below.refl _ _⟩
    case round =>
     obtain ⟨k,hk,rfl,g8,hB⟩:=hrel
     have u3:=hB.size
     obtain ⟨xl,j5⟩:∃ xl,(fs.take k).filter p=xl:=⟨_,rfl⟩
     have x7:xl.length<=360:=by
      have h1:=List.length_filter_le p (fs.take k)
      rw [j5,List.length_take] at h1
      omega
     rw [j5] at g8
     have HO:=hd_ g8
     have k8:=hd_ j5
     clear g8 j5
     by_cases hlt:k<fs.length
     ·obtain ⟨b,o,f,v3,k4,hf,q0,q1⟩:=(ky.out.now abF hB).at_ hlt
      have u1:=hd_ (filt_succ (p:=p) hf)
      subst v3
      obtain ⟨bx,ox,rx,xj,q2,vY,gv,vq⟩:=(j7.out.ext hB).at_ hf hlt
      obtain ⟨by_,oy,ry,x8,y4,vu,gQ,x3⟩:=(j8.out.ext hB).at_ hf hlt
      subst xj x8
      have uq:Hid (Is wr wr.heap.size rx.A rx.n rx.xs):=by show Is _ _ _ _ _;exact vq
      have uJ:Hid (Is wr wr.heap.size ry.A ry.n ry.xs):=by show Is _ _ _ _ _;exact x3
      have vX:rx.n<=1000000:=by have h1:=uq.out.len;have h2:=toldW_len l kn day f;rw [<- gv] at h2;omega
      have x0:ry.n<=1000000:=by have h1:=uJ.out.len;have h2:=toldW_len (excL l src) kn day f;rw [<- gQ] at h2;omega
      clear hf vq x3
      cases hq:decide (rx.xs=ry.xs) with
      | true =>
        have uj:=hd_ hq
        have jy:p f=false:=by rw [<- HP.out f,<- gv,<- gQ,hq];simp
        clear hq gv gQ
        unfold Rw.v at vY vu
        go_wp2_with fail
        (refine rg_ ?_;(repeat (go_big_quiet_step ((first | (go_at_call_of 29 (Value.slice rx.A rx.n rx.c);exact Calls.grow_all (fun g=>r_Same2 rx.xs ry.xs true rx.A ry.A rx.n rx.c ry.n ry.c g.1 vX x0 (uq.out.now g.2) (uJ.out.now g.2) uj.out))))));refine qn_ fun w1 g3 u0 qx=>?_)
        have g4:Below wr.heap.size wr w1:=g3
        obtain ⟨w9,rfl⟩:∃ w9,w9=w1:=⟨_,rfl⟩
        have vx:=g4.size
        have y0:=(g4.cell (p:=⟨b,o+k*2,none⟩) k4).trans q0
        have y1:=(g4.cell (p:=⟨b,o+k*2+1,none⟩) k4).trans q1
        have q5:b<w9.heap.size:=by omega
        clear g3 u0 qx q0 q1
        have HN:Hid ((fs.take (k+1)).filter p=xl):=by show _=_;rw [u1.out,if_neg (by rw [jy];simp),k8.out]
        clear jy
        go_wp2_with fail
        go_roundw
        case rel=>exact ⟨k+1,by omega,by go_num,by rw [HN.out];exact own_ex HO.out g4,hB.trans (g4.mono u3)⟩
        case measure=>exact ms_
      | false =>
        have uj:=hd_ hq
        have jy:p f=true:=by rw [<- HP.out f,<- gv,<- gQ,hq];simp
        clear hq gv gQ
        unfold Rw.v at vY vu
        go_wp2_with fail
        (refine rg_ ?_;(repeat (go_big_quiet_step ((first | (go_at_call_of 29 (Value.slice rx.A rx.n rx.c);exact Calls.grow_all (fun g=>r_Same2 rx.xs ry.xs false rx.A ry.A rx.n rx.c ry.n ry.c g.1 vX x0 (uq.out.now g.2) (uJ.out.now g.2) uj.out))))));refine qn_ fun w1 g3 u0 qx=>?_)
        have g4:Below wr.heap.size wr w1:=g3
        obtain ⟨w9,rfl⟩:∃ w9,w9=w1:=⟨_,rfl⟩
        have vx:=g4.size
        have y0:=(g4.cell (p:=⟨b,o+k*2,none⟩) k4).trans q0
        have y1:=(g4.cell (p:=⟨b,o+k*2+1,none⟩) k4).trans q1
        have q5:b<w9.heap.size:=by omega
        clear g3 u0 qx q0 q1
        have HN:Hid ((fs.take (k+1)).filter p=xl ++ [f]):=by show _=_;rw [u1.out,if_pos jy,k8.out]
        clear jy
        go_wp2_with (at_builtin;refine wpList_append_own _ rfl (.tmp 68) (.tmp 73) 71 rfl wv.heap.size 60 i0 _ 2 16 Tryz.underlying71 hi vj vy vJ rfl (by decide) _ _ _ rfl ((own_ex HO.out g4).alloc (.cells #[.int .i64 f.1,.int .i64 f.2] 60)) ⟨w9.heap.size,0,none⟩ 1 1 [.int .i64 f.1,.int .i64 f.2] rfl rfl ?c1 ?c2 ?c3 ?c4 ?c5 ?_;rotate_left 5;intro v' w10 gX g7 _)
        case c1=>intro j u hj;match j,hj with
         | 0,hj=>simp at hj;subst hj;simp [Addr.add]
         | 1,hj=>simp at hj;subst hj;simp [Addr.add]
        case c2=>simp [Value.oneCell']
        case c3=>unfold maxLen;omega
        case c4=>omega
        case c5=>simp;omega
        go_roundw
        case rel =>
         refine ⟨k+1,by omega,by go_num,?_,OwnS.below ((hB.trans (g4.mono u3)).alloc (by omega) _) ((own_ex HO.out g4).alloc (.cells #[.int .i64 f.1,.int .i64 f.2] 60)) (by simp;omega) g7⟩
         rw [HN.out,List.length_append]
         have e1:folCells (xl ++ [f])=folCells xl ++ [.int .i64 f.1,.int .i64 f.2]:=by simp [folCells]
         rw [e1]
         exact gX
        case measure=>exact ms_
     ·have ux:Hid (k=fs.length):=by show _=_;omega
      have gx:(folL l.pp).filter p=xl:=by rw [v0.out,<- k8.out,ux.out,List.take_length]
      have gq:=hd_ gx
      clear gx
      have hO:=HO.out
      obtain ⟨A9,c9,rfl,xv⟩:=own_slice hO
      go_wp2
      go_ret2
      exact ⟨A9,_,c9,rfl,qv.trans (hB.mono q7),by rw [gq.out];exact own_dn hO q7,by rw [gq.out]⟩
   ·have xu:decide (ee=eg)=false:=by simpa using hq
    have xy:(ee != eg)=true:=by simpa using hq
    clear hq
    go_enter Tryz.func50,Tryz.ntmps50
    go_wp2_with (go_at_call 102;refine (r_asked_v l ⟨pA,pn,pc,rA,rn,rc,tA,tn,tc,sA,sn,sc⟩ [day,kn] 0 _ 2 2 _ HF.out (HD.out.now (by exact bel_)) (by decide) (Rd.new _ #[.int .i64 day,.int .i64 kn] _ 1 2 _ (by simp) rfl) HV.out).mono ?_;rintro e w1 ⟨rfl,g3⟩;have g9:Below w.heap.size w w1:=bt_ (by exact bel_) g3;have j4:=g9.size;have g5:=(BL0.out.alloc _).ext g3;have k9:=g5.cell;have k5:=g5.lt;have g6:=(BA0.out.alloc _).ext g3;have k6:=g6.cell;have k7:=g6.lt;clear g3)
    (refine wp_region_bheld 6 (by kernel_rfl) rfl (fun hS=>?_);simp only [List.reduceReplicate,Array.replicate_succ,Array.replicate_zero])
    (refine tk_ (i:=0) (v:=?_) rfl ?_ hS ?_;rotate_left;focus (intro w2 g0;obtain ⟨g2,g1⟩:=bcell g0;go_simp;first | done | with_reducible rfl);(try simp only [Act.put,pu1,pu2,pu3]))
    (refine tk_ (i:=2) (v:=?_) rfl ?_ hS ?_;rotate_left;focus (intro w2 g0;obtain ⟨g2,g1⟩:=bcell g0;go_simp;first | done | with_reducible rfl);(try simp only [Act.put,pu1,pu2,pu3]))
    (refine tk_ (i:=3) (v:=?_) rfl ?_ hS ?_;rotate_left;focus (intro w2 g0;obtain ⟨g2,g1⟩:=bcell g0;go_simp;first | done | with_reducible rfl);(try simp only [Act.put,pu1,pu2,pu3]))
    refine rd_ [1] ?_
    refine ah1 rfl fun K hK=>?_
    (go_simp;refine (jX.out _ (g9.trans (hS.mono j4))).mono ?_;rintro e w2 ⟨v2,rfl,jv,gJ⟩;obtain ⟨A2,c2,rfl,kQ⟩:=own_slice gJ;go_simp)
    have h2:Below w1.heap.size w1 w2:=bt_ hS jv
    have qJ:Hid (Is w2 w2.heap.size A2 (srcL l).length (srcL l)):=by show Is _ _ _ _ _;exact Rd.of_own gJ
    refine hK.out _ _ h2 (fun hS=>?_)
    clear hK K gJ
    (try simp only [Act.put,pu1,pu2,pu3])
    refine rd_ [4] ?_
    refine ah1 rfl fun K hK=>?_
    (go_simp;refine (r_Has2_v (srcL l) src true A2 _ c2 _ (by omega) qJ.out HQ.out).mono ?_;rintro e w3 ⟨rfl,jj⟩;go_simp)
    have h3:Below w1.heap.size w1 w3:=bt_ h2 jj
    refine hK.out _ _ h3 (fun hS=>?_)
    clear hK K
    (try simp only [Act.put,pu1,pu2,pu3])
    (refine tk_ (i:=5) (v:=?_) rfl ?_ hS ?_;rotate_left;focus (intro w2 g0;obtain ⟨g2,g1⟩:=bcell g0;go_simp;first | done | with_reducible rfl);(try simp only [Act.put,pu1,pu2,pu3]))
    refine wpAnyH_done (by kernel_rfl) ?_ _
    have qQ:Below w.heap.size w w3:=g9.trans (h3.mono j4)
    have x2:=qQ.size
    have gY:=g5.ext h3
    have u2:=gY.cell
    have u7:=gY.lt
    have j0:=g6.ext h3
    have u6:=j0.cell
    have u9:=j0.lt
    clear jv jj h2 h3 hS k9 k5 k6 k7 g5 g6
    go_wp2_with (go_at_call 142;refine (jx.out _ (by exact bel_)).mono ?_;rintro e w4 ⟨AX,cX,rxs,rfl,j9,jY,gv,qX⟩;have jQ:Below w.heap.size w w4:=bt_ (by exact bel_) j9;have kq:=jQ.size;have j1:=gY.ext j9;have uu:=j1.cell;have uy:=j1.lt;have j6:=j0.ext j9;have uX:=j6.cell;have v5:=j6.lt;have k1:Hid (TldAt w4 AX (folL l.pp).length ((folL l.pp).map (toldW l kn day)) rxs):=(by show TldAt _ _ _ _ _;exact ⟨by rw [List.length_map] at jY;exact Rd.of_own jY,gv,fun r hr=>(qX r hr).is⟩);clear j9 jY gv qX u2 u7 u6 u9)
    (refine wp_region_bheld 11 (by kernel_rfl) rfl (fun hS=>?_);simp only [List.reduceReplicate,Array.replicate_succ,Array.replicate_zero])
    (refine tk_ (i:=0) (v:=?_) rfl ?_ hS ?_;rotate_left;focus (intro w2 g0;obtain ⟨g2,g1⟩:=bcell g0;go_simp;first | done | with_reducible rfl);(try simp only [Act.put,pu1,pu2,pu3]))
    (refine tk_ (i:=1) (v:=?_) rfl ?_ hS ?_;rotate_left;focus (intro w2 g0;obtain ⟨g2,g1⟩:=bcell g0;go_simp;first | done | with_reducible rfl);(try simp only [Act.put,pu1,pu2,pu3]))
    (refine tk_ (i:=2) (v:=?_) rfl ?_ hS ?_;rotate_left;focus (intro w2 g0;obtain ⟨g2,g1⟩:=bcell g0;go_simp;first | done | with_reducible rfl);(try simp only [Act.put,pu1,pu2,pu3]))
    (refine tk_ (i:=4) (v:=?_) rfl ?_ hS ?_;rotate_left;focus (intro w2 g0;obtain ⟨g2,g1⟩:=bcell g0;go_simp;first | done | with_reducible rfl);(try simp only [Act.put,pu1,pu2,pu3]))
    refine rd_ [3] ?_
    refine ah1 rfl fun K hK=>?_
    (go_simp;refine (r_Without l ⟨pA,pn,pc,rA,rn,rc,tA,tn,tc,sA,sn,sc⟩ src _ j2.out (HD.out.now (jQ.trans (hS.mono kq)))).mono ?_;rintro e w5 ⟨y,rfl,qu,-,kX⟩;go_simp)
    have h5:Below w4.heap.size w4 w5:=bt_ hS qu
    refine hK.out _ _ h5 (fun hS=>?_)
    clear hK K
    (try simp only [Act.put,pu1,pu2,pu3])
    refine rd_ [5] ?_
    refine ah1 rfl fun K hK=>?_
    (go_simp;refine (ju.out y _ kX).mono ?_;rintro e w6 ⟨AY,cY,rys,rfl,kv,k3,gQ,ku⟩;go_simp)
    have h6:Below w4.heap.size w4 w6:=bt_ h5 kv
    refine hK.out _ _ h6 (fun hS=>?_)
    clear hK K
    (try simp only [Act.put,pu1,pu2,pu3])
    (refine tk_ (i:=6) (v:=?_) rfl ?_ hS ?_;rotate_left;focus (intro w2 g0;obtain ⟨g2,g1⟩:=bcell g0;go_simp;first | done | with_reducible rfl);(try simp only [Act.put,pu1,pu2,pu3]))
    (refine tk_ (i:=7) (v:=?_) rfl ?_ hS ?_;rotate_left;focus (intro w2 g0;obtain ⟨g2,g1⟩:=bcell g0;go_simp;first | done | with_reducible rfl);(try simp only [Act.put,pu1,pu2,pu3]))
    (refine tk_ (i:=8) (v:=?_) rfl ?_ hS ?_;rotate_left;focus (intro w2 g0;obtain ⟨g2,g1⟩:=bcell g0;go_simp;first | done | with_reducible rfl);(try simp only [Act.put,pu1,pu2,pu3]))
    (refine tk_ (i:=9) (v:=?_) rfl ?_ hS ?_;rotate_left;focus (intro w2 g0;obtain ⟨g2,g1⟩:=bcell g0;go_simp;first | done | with_reducible rfl);(try simp only [Act.put,pu1,pu2,pu3]))
    (refine tk_ (i:=10) (v:=?_) rfl ?_ hS ?_;rotate_left;focus (intro w2 g0;obtain ⟨g2,g1⟩:=bcell g0;go_simp;first | done | with_reducible rfl);(try simp only [Act.put,pu1,pu2,pu3]))
    refine wpAnyH_done (by kernel_rfl) ?_ _
    have v4:Below w.heap.size w w6:=jQ.trans (h6.mono kq)
    have x4:=v4.size
    have q4:=j1.ext h6
    have v8:=q4.cell
    have uY:=q4.lt
    have uQ:=j6.ext h6
    have qj:Hid (TldAt w6 AY (folL l.pp).length ((folL l.pp).map (toldW (excL l src) kn day)) rys):=by show TldAt _ _ _ _ _;exact ⟨by rw [List.length_map] at k3;exact Rd.of_own k3,gQ,fun r hr=>(ku r hr).is⟩
    have kJ:=hd_ (k1.out.ext h6)
    clear qu kv h5 h6 hS kX k3 gQ ku uu uy uX v5 j1 j6
    go_wp2_with (go_at_call 144;refine (r_folios l ⟨pA,pn,pc,rA,rn,rc,tA,tn,tc,sA,sn,sc⟩ _ jq (fun r hr=>j2.out.pp r hr) (HD.out.now (by exact bel_))).mono ?_;rintro e w7 ⟨v7,rfl,gu,k2⟩;obtain ⟨AF,cF,rfl,xx⟩:=own_slice k2;have qv:Below w.heap.size w w7:=bt_ (by exact bel_) gu;have q7:=qv.size;have x9:=uQ.ext gu;have ky:Hid (Sq QF 2 w7 w7.heap.size AF (folL l.pp).length (folL l.pp)):=(by show Sq _ _ _ _ _ _ _;exact sq_of_own k2 rfl);have j7:=hd_ (kJ.out.ext gu);have j8:=hd_ (qj.out.ext gu);clear gu k2 v8 uY)
    obtain ⟨fs,j3⟩:∃ fs,folL l.pp=fs:=⟨_,rfl⟩
    rw [j3] at ky vQ j7 j8
    (try rw [j3])
    have v0:=hd_ j3
    clear j3 kJ qj
    obtain ⟨wv,rfl⟩:∃ wv,wv=w7:=⟨_,rfl⟩
    go_loopw [12,13] (fun v i wr=>∃ k:Nat,k<=fs.length/\i=.int .i64 k/\wr.ownsRow wv.heap.size 60 2 v ((fs.take k).filter p).length (folCells ((fs.take k).filter p))/\Below wv.heap.size wv wr) (fun _ i _=>fs.length - (intOf i).toNat)
    case atStart=>exact ⟨0,by omega,rfl,World.ownsRow_nil _ _ _ _,Below.refl _ _⟩
    case round =>
     obtain ⟨k,hk,rfl,g8,hB⟩:=hrel
     have u3:=hB.size
     obtain ⟨xl,j5⟩:∃ xl,(fs.take k).filter p=xl:=⟨_,rfl⟩
     have x7:xl.length<=360:=by
      have h1:=List.length_filter_le p (fs.take k)
      rw [j5,List.length_take] at h1
      omega
     rw [j5] at g8
     have HO:=hd_ g8
     have k8:=hd_ j5
     clear g8 j5
     by_cases hlt:k<fs.length
     ·obtain ⟨b,o,f,v3,k4,hf,q0,q1⟩:=(ky.out.now abF hB).at_ hlt
      have u1:=hd_ (filt_succ (p:=p) hf)
      subst v3
      have jy:p f=true:=by rw [<- HP.out f,xu];rfl
      clear hf
      go_wp2_with fail
      (refine rg_ ?_;(repeat (go_big_quiet_step (fail)));refine qn_ fun w1 g3 u0 qx=>?_)
      have g4:Below wr.heap.size wr w1:=g3
      obtain ⟨w9,rfl⟩:∃ w9,w9=w1:=⟨_,rfl⟩
      have vx:=g4.size
      have y0:=(g4.cell (p:=⟨b,o+k*2,none⟩) k4).trans q0
      have y1:=(g4.cell (p:=⟨b,o+k*2+1,none⟩) k4).trans q1
      have q5:b<w9.heap.size:=by omega
      clear g3 u0 qx q0 q1
      have HN:Hid ((fs.take (k+1)).filter p=xl ++ [f]):=by show _=_;rw [u1.out,if_pos jy,k8.out]
      clear jy
      go_wp2_with (at_builtin;refine wpList_append_own _ rfl (.tmp 68) (.tmp 73) 71 rfl wv.heap.size 60 i0 _ 2 16 Tryz.underlying71 hi vj vy vJ rfl (by decide) _ _ _ rfl ((own_ex HO.out g4).alloc (.cells #[.int .i64 f.1,.int .i64 f.2] 60)) ⟨w9.heap.size,0,none⟩ 1 1 [.int .i64 f.1,.int .i64 f.2] rfl rfl ?c1 ?c2 ?c3 ?c4 ?c5 ?_;rotate_left 5;intro v' w10 gX g7 _)
      case c1=>intro j u hj;match j,hj with
       | 0,hj=>simp at hj;subst hj;simp [Addr.add]
       | 1,hj=>simp at hj;subst hj;simp [Addr.add]
      case c2=>simp [Value.oneCell']
      case c3=>unfold maxLen;omega
      case c4=>omega
      case c5=>simp;omega
      go_roundw
      case rel =>
       refine ⟨k+1,by omega,by go_num,?_,OwnS.below ((hB.trans (g4.mono u3)).alloc (by omega) _) ((own_ex HO.out g4).alloc (.cells #[.int .i64 f.1,.int .i64 f.2] 60)) (by simp;omega) g7⟩
       rw [HN.out,List.length_append]
       have e1:folCells (xl ++ [f])=folCells xl ++ [.int .i64 f.1,.int .i64 f.2]:=by simp [folCells]
       rw [e1]
       exact gX
      case measure=>exact ms_
     ·have ux:Hid (k=fs.length):=by show _=_;omega
      have gx:(folL l.pp).filter p=xl:=by rw [v0.out,<- k8.out,ux.out,List.take_length]
      have gq:=hd_ gx
      clear gx
      have hO:=HO.out
      obtain ⟨A9,c9,rfl,xv⟩:=own_slice hO
      go_wp2
      go_ret2
      exact ⟨A9,_,c9,rfl,qv.trans (hB.mono q7),by rw [gq.out];exact own_dn hO q7,by rw [gq.out]⟩
theorem setP_len {l:Led} (h:ledB l=true) {kn:Int} (hs:setE l kn=0):(setP l kn).length=l.rt.length:=by
 rw [set_ref h] at hs
 cases ho:firstP (refD l (tellK l kn l.rt.length) kn) l.rc with
 | some q=>rw [ho] at hs;simp at hs
 | none =>
   cases hR:(refL l (tellK l kn l.rt.length) kn (cntS l kn) (byL l kn)).2 with
   | false=>rw [ho,hR] at hs;simp at hs
   | true=>rw [setP_ref h kn hR,refL_len,byL_len]
theorem zip_true {L:List Int} {P:List (Int × Int)} (h:∀ (j:Nat) (y:Int) (d:Int × Int),L[j]?=some y->P[j]?=some d->d.1<=y/\y<=d.2):trueD L P=true:=by
 rw [trueD,List.all_eq_true]
 intro x hx
 obtain ⟨j,hj⟩:=List.getElem?_of_mem hx
 rw [List.getElem?_zip_eq_some] at hj
 obtain ⟨h1,h2⟩:=h j x.1 x.2 hj.1 hj.2
 simp [withinB,h1,h2]
theorem att_ok {l:Led} {src kn:Int} (h:retE l src kn=0):∃ i d,l.rt.findIdx? (fun t=>t.src == src)=some i/\daysX l src kn=(d,0)/\∀ last,∃ L,attX l src kn last=(L,0)/\checkTrueX l kn L=0/\L[i]?=some (if last=true then d.2 else d.1):=by
 have h0:=h
 unfold retE at h
 split at h
 ·rename_i hp
  have hl:=(pre_zero hp).1
  split at h
  ·cases h
  ·rename_i i hi
   split at h
   ·have y3:i<l.rt.length:=(List.findIdx?_eq_some_iff_getElem.1 hi).1
    have k0:=setP_len hl h
    obtain ⟨d,hd⟩:∃ d,(setP l kn)[i]?=some d:=⟨_,List.getElem?_eq_getElem (by omega)⟩
    have x1:(setP l kn).getD i (0,0)=d:=by rw [List.getD_eq_getElem?_getD,hd];rfl
    have jJ:=setP_pos hl h
    refine ⟨i,d,hi,by rw [daysX,if_pos h0,hi,Option.getD_some,x1],fun last=>?_⟩
    have vv:∀ L:List Int,L.length=l.rt.length->trueD L (setP l kn)=true->checkTrueX l kn L=0:=fun L h1 h2=>by
     rw [checkTrueX,if_pos hp,trueE,if_pos ⟨h1,h⟩,h2];rfl
    cases last with
    | false =>
      refine ⟨(setP l kn).map Prod.fst,by simp only [attX,if_pos h0,hi];rfl,vv _ (by simp [k0]) (zip_true fun j y e hy he=>?_),by rw [List.getElem?_map,hd];rfl⟩
      rw [List.getElem?_map,he] at hy
      cases hy
      exact ⟨Int.le_refl _,jJ j e he⟩
    | true =>
      refine ⟨((setP l kn).map Prod.fst).set i d.2,by simp only [attX,if_pos h0,hi,x1];rfl,vv _ (by simp [k0]) (zip_true fun j y e hy he=>?_),by rw [List.getElem?_set_self (by simp;omega)];rfl⟩
      by_cases u8:i=j
      ·subst u8
       rw [List.getElem?_set_self (by simp;omega)] at hy
       cases hy
       obtain rfl:d=e:=Option.some.inj (hd.symm.trans he)
       exact ⟨jJ i d hd,Int.le_refl _⟩
      ·rw [List.getElem?_set_ne u8,List.getElem?_map,he] at hy
       cases hy
       exact ⟨Int.le_refl _,jJ j e he⟩
   ·cases h
 ·rename_i hp
  exact absurd h hp
theorem att_err {l:Led} {src kn:Int} (h:¬ retE l src kn=0):daysX l src kn=((0,0),retE l src kn)/\∀ last,attX l src kn last=([],retE l src kn):=⟨by rw [daysX,if_neg h],fun last=>by rw [attX,if_neg h]⟩
theorem ret_led {l:Led} {src kn:Int} (h:retE l src kn=0):ledB l=true:=by
 unfold retE at h
 split at h
 ·rename_i hp;exact (pre_zero hp).1
 ·rename_i hp;exact absurd h hp
theorem att_len {l:Led} {src kn:Int} {last:Bool} {L:List Int} (h0:retE l src kn=0) (h:attX l src kn last=(L,0)):L.length<=60:=by
 have hl:=ret_led h0
 have xQ:=(led_ok hl).tn
 have hs:setE l kn=0:=by
  have h1:=h0
  unfold retE at h1
  split at h1
  ·split at h1
   ·cases h1
   ·split at h1
    ·exact h1
    ·cases h1
  ·rename_i hp;exact absurd h1 hp
 have k0:=setP_len hl hs
 rw [attX,if_pos h0] at h
 split at h
 ·cases h;rw [List.length_map];omega
 ·cases h
  split
  ·rw [List.length_set,List.length_map];omega
  ·rw [List.length_map];omega
set_option maxRecDepth 10000 in
theorem w_index (l:Led) (x:Lsl) (src:Int) (w:World) (hn:x.tn<=1000000) (hd:LedIn w w.heap.size x l) :
 Calls Tryz.prog 54 #[.agg #[.slice x.pA x.pn x.pc,.slice x.rA x.rn x.rc,.slice x.tA x.tn x.tc,.slice x.sA x.sn x.sc],.int .i64 src] w fun e w'=>e=.returned (.int .i64 (ixI (l.rt.findIdx? (fun t=>t.src == src))))/\Below w.heap.size w w':=by
 obtain ⟨pA,pn,pc,rA,rn,rc,tA,tn,tc,sA,sn,sc⟩:=x
 show Calls _ _ #[.agg #[.slice pA pn pc,.slice rA rn rc,.slice tA tn tc,.slice sA sn sc],_] _ _
 have HT:Hid (Rts w w.heap.size tA tn l.rt):=by show Sq _ _ _ _ _ _ _;exact hd.t
 have HL:Hid (l.rt.length=tn):=by show _=_;exact hd.t.len
 have xX:tn<=1000000:=hn
 clear hd hn
 obtain ⟨q,hq⟩:∃ q,l.rt.findIdx? (fun t=>t.src == src)=q:=⟨_,rfl⟩
 rw [hq]
 have HQ:=hd_ hq
 clear hq
 go_enter Tryz.func54,Tryz.ntmps54
 go_wp2
 go_loopw [5] (fun i wr=>∃ k:Nat,k<=tn/\i=.int .i64 k/\(l.rt.take k).any (fun t=>t.src == src)=false/\Below w.heap.size w wr/\BoxA wr w.heap.size 27 #[.slice pA pn pc,.slice rA rn rc,.slice tA tn tc,.slice sA sn sc]) (fun i _=>tn - (intOf i).toNat)
 case atStart=>exact ⟨0,by omega,rfl,rfl,by exact bel_,BoxA.new _ _ _⟩
 case round =>
  obtain ⟨k,hk,rfl,q6,hB,q2⟩:=hrel
  have HA:=hd_ q6
  have x5:=hd_ q2
  have xJ:=hB.size
  have kx:=q2.cell
  have zx:=q2.lt
  clear q6 q2
  by_cases hlt:k<tn
  ·obtain ⟨b,o,t,rfl,hb,hx,A2,n2,c2,⟨h0,-,-,-,-,-,-,-⟩,-,-,-⟩:=(HT.out.now abT hB).at_ hlt
   cases hs:(t.src == src) with
   | false =>
     have HN:Hid ((l.rt.take (k+1)).any (fun t=>t.src == src)=false):=by show _=_;rw [any_take_succ2 hx,HA.out,hs];rfl
     clear hx
     go_wp2
     go_roundw
     case rel=>exact ⟨k+1,by omega,by go_num,HN.out,hB,x5.out⟩
     case measure=>exact ms_
   | true =>
     have HN:Hid (q=some k):=by show _=_;rw [<- HQ.out];exact ix_found hx hs HA.out
     clear hx
     go_wp2
     go_ret
     rw [HN.out]
     exact ⟨rfl,hB⟩
  ·obtain rfl:k=tn:=by omega
   have HN:Hid (q=none):=by
    show _=_
    rw [<- HQ.out]
    refine ix_none ?_
    have h:=HA.out
    rwa [List.take_of_length_le (by rw [HL.out];exact lr_)] at h
   go_wp2
   go_ret
   rw [HN.out]
   exact ⟨rfl,hB⟩
end Go.Proofs.YtoiompoapikkbaaGreat
namespace Go.Proofs.YtoiompoapikkbaaGreat
open Go.RowKit
end Go.Proofs.YtoiompoapikkbaaGreat
