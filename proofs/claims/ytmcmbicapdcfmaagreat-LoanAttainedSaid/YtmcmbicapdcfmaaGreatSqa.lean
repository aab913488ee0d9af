/- LoanAttained: for every history that numbers describe, every day, folio and return by numbers, whatever memory they lie in, the Go function LoanAttained (layer 2, promise P2.3) returns true and leaves its arguments as they read. Conditions: none. -/
import Derived.Test.YtmcmbicapdcfmaaGreatSje
import Derived.Deep.DeepCutAuto
import Derived.Deep.CutRange
set_option linter.unusedVariables false
set_option linter.unusedSimpArgs false
namespace Go.Proofs.YtmcmbicapdcfmaaGreat
open Go.RowKit Go.Maps
theorem pre_okM {l:Led} {ds:List Int} (h1:ledB l=true) (h2:daysOk ds=true):preE l ds=0:=by simp [preE,h1,h2,orL,errI]
theorem RawIn.now {w w':World} {x:Rsl} {r:RawL} (h:RawIn w x r) (hb:Below w.heap.size w w'):RawIn w' x r :=
 ⟨(Rd.ext h.a hb lr_).more hb.size,(Rd.ext h.b hb lr_).more hb.size,(Rd.ext h.c hb lr_).more hb.size⟩
theorem findI_src {rt:List Rtn} (h:rt.Pairwise fun x y=>x.src<y.src) {k:Nat} {t:Rtn} (ht:rt[k]?=some t):rt.findIdx? (fun u=>u.src == t.src)=some k:=by
 rw [List.findIdx?_eq_some_iff_getElem]
 obtain ⟨hk,he⟩:=List.getElem?_eq_some_iff.1 ht
 refine ⟨hk,by simp [he],fun j hj=>?_⟩
 have:=List.pairwise_iff_getElem.1 h j k (by omega) hk hj
 rw [he] at this
 simp
 omega
theorem tel_at {T:List Bool} {rt:List Rtn} {s:Int} (h:s∈telK T rt rt.length):∃ (k:Nat) (t:Rtn),rt[k]?=some t∧T[k]?=some true∧t.src=s:=by
 rw [telK,List.mem_map] at h
 obtain ⟨p,hp,rfl⟩:=h
 obtain ⟨hp,h1⟩:=List.mem_filter.1 hp
 obtain ⟨k,hk,he⟩:=List.mem_iff_getElem.1 (List.mem_of_mem_take hp)
 have hz:(List.zip T rt)[k]?=some p:=by rw [List.getElem?_eq_getElem hk,he]
 obtain ⟨b,t⟩:=p
 rw [List.getElem?_zip_eq_some] at hz
 obtain rfl:b=true:=h1
 exact ⟨k,t,hz.2,hz.1,rfl⟩
theorem at_tel {T:List Bool} {rt:List Rtn} {k:Nat} {t:Rtn} (ht:rt[k]?=some t) (hT:T[k]?=some true):t.src∈telK T rt rt.length:=by
 have hz:(List.zip T rt)[k]?=some (true,t):=by rw [List.getElem?_zip_eq_some];exact ⟨hT,ht⟩
 rw [telK,List.mem_map]
 refine ⟨(true,t),List.mem_filter.2 ⟨?_,rfl⟩,rfl⟩
 rw [List.take_of_length_le (by rw [List.length_zip];omega)]
 exact List.mem_of_getElem? hz
theorem rt_rise {l:Led} (h:ledB l=true):l.rt.Pairwise fun x y=>x.src<y.src:=by
 simp only [ledB,Bool.and_eq_true] at h
 exact val_pair h.2.2.1
theorem tel_ret {l:Led} {kn s:Int} (hl:ledB l=true) (hp:preE l [kn]=0) (hs:setE l kn=0) (h:s∈(telX l kn).1):retE l s kn=0:=by
 rw [telX,if_pos hp] at h
 obtain ⟨k,t,ht,hT,rfl⟩:=tel_at h
 rw [retE,if_pos hp,findI_src (rt_rise hl) ht]
 simp only [hT,if_true,hs]
theorem true_at:∀ {days:List Int} {P:List (Int × Int)},trueD days P=true→∀ {k:Nat} {y:Int} {d:Int × Int},days[k]?=some y→P[k]?=some d→d.1≤y∧y≤d.2:=by
 intro days P h k y d hy hd
 rw [trueD,List.all_eq_true] at h
 have hz:(List.zip days P)[k]?=some (y,d):=by rw [List.getElem?_zip_eq_some];exact ⟨hy,hd⟩
 have:=h _ (List.mem_of_getElem? hz)
 simpa [withinB] using this
theorem true_of {l:Led} {kn:Int} {days:List Int} (h:trueE l kn days=0):days.length=l.rt.length∧setE l kn=0∧trueD days (setP l kn)=true:=by
 unfold trueE at h
 split at h
 ·rename_i h1
  refine ⟨h1.1,h1.2,?_⟩
  cases h2:trueD days (setP l kn)
  ·rw [h2] at h;cases h
  ·rfl
 ·cases h
theorem check_of {l:Led} {kn:Int} {days:List Int} (h:checkTrueX l kn days=0):preE l [kn]=0∧trueE l kn days=0:=by
 unfold checkTrueX at h
 split at h
 ·rename_i h1;exact ⟨h1,h⟩
 ·rename_i h1;exact absurd h h1
theorem who_in {l:Led} {kn day pap leaf:Int} {days:List Int} (hl:ledB l=true) (h:trueE l kn days=0):whoF l kn day days pap leaf∈whL l kn day (pap,leaf):=by
 obtain ⟨h1,h2,h3⟩:=true_of h
 have hlen:=setP_len hl h2
 have hb:=stayP_back (M:=(opnL l kn).M) (R:=cntR l kn) (pap:=pap) (leaf:=leaf) (day:=day) (n:=l.rt.length) (fun k i hi=>opnK_M _ _ _ _ _ _ _ hi)
 unfold whoF whL whereS
 obtain ⟨⟨p,b⟩,hst⟩:∃ st,stayP (opnL l kn).M (cntR l kn) pap leaf day=st:=⟨_,rfl⟩
 rw [hst] at hb ⊢
 rcases hb with hb | ⟨i,hi,hb⟩
 ·have hb:b=-1:=hb
  subst hb
  simp
 ·have hb:b=(i:Int):=hb
  subst hb
  obtain ⟨d,hd⟩:∃ d,(setP l kn)[i]?=some d:=⟨_,List.getElem?_eq_getElem (by omega)⟩
  obtain ⟨y,hy⟩:∃ y,days[i]?=some y:=⟨_,List.getElem?_eq_getElem (by omega)⟩
  have ht:=true_at h3 hy hd
  have hn:¬ ((i:Int)<0):=by omega
  simp only [Int.toNat_natCast,List.getD_eq_getElem?_getD,hd,hy,Option.getD_some,hn,false_or]
  by_cases c1:day<d.1
  ·rw [if_pos c1,if_pos (by omega)];simp
  ·rw [if_neg c1]
   by_cases c2:d.2≤day
   ·rw [if_pos c2,if_neg (by omega)];simp
   ·rw [if_neg c2]
    split <;> simp
theorem where_two {l:Led} {kn day pap leaf:Int} (hl:ledB l=true) (hs:setE l kn=0):(∃ a,whL l kn day (pap,leaf)=[a])∨∃ b,whL l kn day (pap,leaf)=[0,b]∧∃ (k:Nat) (t:Rtn) (d:Int × Int),l.rt[k]?=some t∧(opnL l kn).T[k]?=some true∧(setP l kn)[k]?=some d∧d.1≤day∧day<d.2 ∧
 ∀ (days:List Int) (y:Int),days[k]?=some y→whoF l kn day days pap leaf=if day<y then b else 0:=by
 have hlen:=setP_len hl hs
 have hb:=stayL_back (opnL l kn).M leaf day ((cntR l kn).filter (isOfB pap leaf))
 have hst:∀ st,stayP (opnL l kn).M (cntR l kn) pap leaf day=st→st=((stayL (opnL l kn).M leaf day ((cntR l kn).filter (isOfB pap leaf))).1,(stayL (opnL l kn).M leaf day ((cntR l kn).filter (isOfB pap leaf))).2.1):=fun st h=>h.symm
 unfold whL whereS
 have hw:∀ days,whoF l kn day days pap leaf=if (stayP (opnL l kn).M (cntR l kn) pap leaf day).2<0∨day<days.getD (stayP (opnL l kn).M (cntR l kn) pap leaf day).2.toNat 0 then (stayP (opnL l kn).M (cntR l kn) pap leaf day).1 else 0:=fun _=>rfl
 obtain ⟨⟨p,b⟩,hq⟩:∃ st,stayP (opnL l kn).M (cntR l kn) pap leaf day=st:=⟨_,rfl⟩
 have hq2:=hst _ hq
 simp only [hq] at hw ⊢
 rcases hb with hb | ⟨k,i,hg,hb⟩
 ·have hb:b=-1:=by injection hq2 with _ h;rw [h,hb]
  subst hb
  exact .inl ⟨p,by simp⟩
 ·have hb:b=(i:Int):=by injection hq2 with _ h;rw [h,hb]
  subst hb
  obtain ⟨s,x⟩:=k
  have hr:=opn_rt l kn s x
  rw [hg] at hr
  obtain ⟨hT,t,ht,-,-⟩:=rt_some hr.symm
  have hi:i<l.rt.length:=(List.getElem?_eq_some_iff.1 ht).1
  obtain ⟨d,hd⟩:∃ d,(setP l kn)[i]?=some d:=⟨_,List.getElem?_eq_getElem (by omega)⟩
  have hn:¬ ((i:Int)<0):=by omega
  simp only [Int.toNat_natCast,List.getD_eq_getElem?_getD,hd,Option.getD_some,hn,false_or] at hw ⊢
  by_cases c1:day<d.1
  ·exact .inl ⟨p,by rw [if_pos c1]⟩
  ·rw [if_neg c1]
   by_cases c2:d.2≤day
   ·exact .inl ⟨0,by rw [if_pos c2]⟩
   ·rw [if_neg c2]
    refine .inr ⟨p,rfl,i,t,d,ht,hT,hd,by omega,by omega,fun days y hy=>?_⟩
    rw [hw,hy]
    rfl
def sawL (l:Led) (kn day pap leaf:Int) (ss:List Int):List Int:=ss.flatMap fun s=>[whoF l kn day (attX l s kn false).1 pap leaf,whoF l kn day (attX l s kn true).1 pap leaf]
theorem saw_all {l:Led} {kn day pap leaf:Int} (hl:ledB l=true) (hp:preE l [kn]=0) (hs:setE l kn=0) (h2:¬ (whL l kn day (pap,leaf)).length≤1):∀ b∈whL l kn day (pap,leaf),b∈sawL l kn day pap leaf (telX l kn).1:=by
 rcases where_two (day:=day) (pap:=pap) (leaf:=leaf) hl hs with ⟨a,ha⟩ | ⟨b,hb,k,t,d,ht,hT,hd,c1,c2,hw⟩
 ·rw [ha] at h2;exact absurd (Nat.le_refl 1) h2
 ·intro c hc
  have hm:t.src∈(telX l kn).1:=by rw [telX,if_pos hp];exact at_tel ht hT
  have hr:=tel_ret hl hp hs hm
  obtain ⟨i,e,hi,hdy,hat⟩:=att_ok hr
  obtain rfl:k=i:=Option.some.inj ((findI_src (rt_rise hl) ht).symm.trans hi)
  have he:e=d:=by
   have h9:=hdy
   rw [daysX,if_pos hr,hi,Option.getD_some,List.getD_eq_getElem?_getD,hd] at h9
   exact (congrArg Prod.fst h9).symm
  subst he
  rw [sawL,List.mem_flatMap]
  refine ⟨t.src,hm,?_⟩
  obtain ⟨L0,a0,-,g0⟩:=hat false
  obtain ⟨L1,a1,-,g1⟩:=hat true
  rw [a0,a1,hw L0 _ g0,hw L1 _ g1]
  rw [hb] at hc
  simp only [Bool.false_eq_true,if_false,if_true] at *
  rw [if_neg (by omega),if_pos c2]
  exact hc
theorem where_len {l:Led} {kn day pap leaf:Int} (hl:ledB l=true) (hs:setE l kn=0):1≤(whL l kn day (pap,leaf)).length∧(whL l kn day (pap,leaf)).length≤2:=by
 rcases where_two (day:=day) (pap:=pap) (leaf:=leaf) hl hs with ⟨a,ha⟩ | ⟨b,hb,-⟩
 ·rw [ha];simp
 ·rw [hb];simp
theorem p_Where_v (l:Led) (x:Lsl) (pap leaf day kn:Int) (p:List Int) (v:Int) (w:World) (hf:x.fit) (hd:LedIn w w.heap.size x l) (hwl:(Lit.int .i64 leaf).wf=true) (h:whereX l pap leaf day kn=(p,v)) :
 Calls Tryz.prog 17 #[.agg #[.slice x.pA x.pn x.pc,.slice x.rA x.rn x.rc,.slice x.tA x.tn x.tc,.slice x.sA x.sn x.sc],.agg #[.int .i64 pap,.int .i64 leaf],.int .i64 day,.int .i64 kn] w (RetLE (p,v) w):=h ▸ p_WhereX l x pap leaf day kn w hf hd hwl
theorem p_Days_v (l:Led) (x:Lsl) (src kn d0 d1 v:Int) (w:World) (hf:x.fit) (hd:LedIn w w.heap.size x l) (h:daysX l src kn=((d0,d1),v)) :
 Calls Tryz.prog 25 #[.agg #[.slice x.pA x.pn x.pc,.slice x.rA x.rn x.rc,.slice x.tA x.tn x.tc,.slice x.sA x.sn x.sc],.int .i64 src,.int .i64 kn] w (fun e w'=>e=.returned (.tuple #[.agg #[.int .i64 d0,.int .i64 d1],.int .i64 v])∧Below w.heap.size w w'):=by
 have:=p_Days2 l x src kn w hf hd
 rw [h] at this
 exact this
theorem w_index_v (l:Led) (x:Lsl) (src:Int) (i:Nat) (w:World) (hn:x.tn≤1000000) (hd:LedIn w w.heap.size x l) (h:l.rt.findIdx? (fun t=>t.src == src)=some i) :
 Calls Tryz.prog 26 #[.agg #[.slice x.pA x.pn x.pc,.slice x.rA x.rn x.rc,.slice x.tA x.tn x.tc,.slice x.sA x.sn x.sc],.int .i64 src] w (fun e w'=>e=.returned (.int .i64 (i:Int))∧Below w.heap.size w w'):=by
 have:=w_index l x src w hn hd
 rw [h] at this
 exact this
theorem p_Attain_v (l:Led) (x:Lsl) (src kn:Int) (last:Bool) (p:List Int) (v:Int) (w:World) (hf:x.fit) (hd:LedIn w w.heap.size x l) (h:attX l src kn last=(p,v)) :
 Calls Tryz.prog 27 #[.agg #[.slice x.pA x.pn x.pc,.slice x.rA x.rn x.rc,.slice x.tA x.tn x.tc,.slice x.sA x.sn x.sc],.int .i64 src,.int .i64 kn,.bool last] w (RetLE (p,v) w):=h ▸ p_Attain l x src kn last w hf hd
structure AttE (l:Led) (kn day pap leaf:Int) (lv:Nat) (s:Int) (i:Nat) (last:Bool) (d:Int) (L P:List Int) (q:Int):Prop where
 at_:attX l s kn last=(L,0)
 ck:checkTrueX l kn L=0
 ix:L[i]?=some d
 len:L.length≤60
 pl:placedX l L pap day kn=(P,0)
 pn:P.length=lv
 pq:P[(leaf - 1).toNat]?=some q
 who:whoF l kn day L pap leaf=q
 mem:q∈whL l kn day (pap,leaf)
theorem att_end {l:Led} {kn day pap leaf s:Int} {lv i:Nat} {last:Bool} {d:Int} {L:List Int} (hl:ledB l=true) (hr:retE l s kn=0) (hpf:preF l day kn pap 1=0) (hlv:lvOf l.pp pap=(lv:Int)) (h1:1≤leaf) (h2:leaf≤lv)
 (ha:attX l s kn last=(L,0)) (hc:checkTrueX l kn L=0) (hi:L[i]?=some d):∃ P q,AttE l kn day pap leaf lv s i last d L P q:=by
 obtain ⟨-,ht⟩:=check_of hc
 have hk:(leaf - 1).toNat<lv:=by omega
 refine ⟨(List.range lv).map (whoP l kn day pap L),whoF l kn day L pap leaf,ha,hc,hi,att_len hr ha,?_,by simp,?_,rfl,who_in hl ht⟩
 ·rw [placedX,if_pos hpf,if_pos ht,hlv,Int.toNat_natCast]
 ·rw [List.getElem?_map,List.getElem?_range hk,Option.map_some,whoP_F]
  congr 2
  omega
theorem att_src {l:Led} {kn day pap leaf s:Int} {lv:Nat} (hl:ledB l=true) (hp:preE l [kn]=0) (hs:setE l kn=0) (hpf:preF l day kn pap 1=0) (hlv:lvOf l.pp pap=(lv:Int)) (h1:1≤leaf) (h2:leaf≤lv) (hm:s∈(telX l kn).1) :
 ∃ (i:Nat) (d0 d1:Int) (L0 L1 P0 P1:List Int) (q0 q1:Int),l.rt.findIdx? (fun t=>t.src == s)=some i∧daysX l s kn=((d0,d1),0)∧d0≤d1∧AttE l kn day pap leaf lv s i false d0 L0 P0 q0∧AttE l kn day pap leaf lv s i true d1 L1 P1 q1:=by
 have hr:=tel_ret hl hp hs hm
 obtain ⟨i,⟨d0,d1⟩,hi,hd,hat⟩:=att_ok hr
 obtain ⟨L0,a0,c0,g0⟩:=hat false
 obtain ⟨L1,a1,c1,g1⟩:=hat true
 simp only [Bool.false_eq_true,if_false,if_true] at g0 g1
 obtain ⟨P0,q0,e0⟩:=att_end hl hr hpf hlv h1 h2 a0 c0 g0
 obtain ⟨P1,q1,e1⟩:=att_end hl hr hpf hlv h1 h2 a1 c1 g1
 refine ⟨i,d0,d1,L0,L1,P0,P1,q0,q1,hi,hd,?_,e0,e1⟩
 obtain ⟨-,ht⟩:=check_of c0
 obtain ⟨h3,h4,h5⟩:=true_of ht
 have hlen:=setP_len hl hs
 have hil:i<l.rt.length:=(List.findIdx?_eq_some_iff_getElem.1 hi).1
 obtain ⟨e,he⟩:∃ e,(setP l kn)[i]?=some e:=⟨_,List.getElem?_eq_getElem (by omega)⟩
 rw [daysX,if_pos hr,hi,Option.getD_some,List.getD_eq_getElem?_getD,he,Option.getD_some] at hd
 obtain rfl:e=(d0,d1):=(Prod.mk.inj hd).1
 exact (true_at h5 g0 he).2
theorem saw_snoc {l:Led} {kn day pap leaf s q0 q1:Int} {L0 L1:List Int} {ss:List Int} {k:Nat} (hk:ss[k]?=some s) (a0:attX l s kn false=(L0,0)) (a1:attX l s kn true=(L1,0)) (w0:whoF l kn day L0 pap leaf=q0) (w1:whoF l kn day L1 pap leaf=q1) :
 sawL l kn day pap leaf (ss.take (k+1))=sawL l kn day pap leaf (ss.take k) ++ [q0] ++ [q1]:=by
 rw [sawL,sawL,take_snoc_some hk,List.flatMap_append]
 simp [a0,a1,w0,w1]
theorem preF_zeroA {l:Led} {day kn pap leaf:Int} (hl:ledB l=true) (hd:daysOk [day,kn]=true) (hf:folB l.pp pap leaf=true):preF l day kn pap leaf=0:=by simp [preF,hl,hd,hf,orL,errI]
theorem lv_in {p:Ppr} (h:p∈mPp):folB mPp p.id 1=true:=by
 rcases mem_pp h with ⟨h1,h2⟩ | ⟨h1,h2⟩ | ⟨h1,h2⟩ <;> rw [h1] <;> decide
theorem lf_in {p:Ppr} (h:p∈mPp) {leaf:Int} (h1:1≤leaf) (h2:leaf≤p.lv):folB mPp p.id leaf=true:=by
 rw [folB,lv_pp h]
 simp [withinB,h1,h2]
theorem BoxA.set2 {W:World} {B:Nat} {t:TypeId} {u0 u1:Value} (h:BoxA W B t #[u0,u1]) (v0 v1:Value):BoxA ((W.setCell ⟨B,0,none⟩ v0).setCell ⟨B,1,none⟩ v1) B t #[v0,v1]:=by
 have:=(h.set 0 v0).set 1 v1
 simpa using this
theorem Is.cell_now {W W':World} {n b o:Nat} {xs:List Int} {k:Nat} {x:Int} (h:Is W W.heap.size (some ⟨b,o,none⟩) n xs) (hB:Below W.heap.size W W') (hk:xs[k]?=some x):W'.cell? ⟨b,o+k,none⟩=some (.int .i64 x):=by
 have hl:=h.len
 have hlt:=(List.getElem?_eq_some_iff.1 hk).1
 obtain ⟨b',o',x',e,hb,hx,hc⟩:=h.at_ (k:=k) (by omega)
 cases e
 obtain rfl:x=x':=Option.some.inj (hk.symm.trans hx)
 exact (hB.cell (p:=⟨b,o+k,none⟩) hb).trans hc
set_option maxRecDepth 100000 in
set_option maxHeartbeats 16000000 in
theorem w_LoanAttained (x:Rsl) (r:RawL) (n0 n1 n2 n3:Int) (w:World) (hf:x.fit) (hd:RawIn w x r) :
 Calls Tryz.prog 4 #[.agg #[.slice x.aA x.an x.ac,.slice x.bA x.bn x.bc,.slice x.cA x.cn x.cc],.agg #[.int .i64 n0,.int .i64 n1,.int .i64 n2,.int .i64 n3]] w fun e w'=>e=.returned (.bool true)∧Below w.heap.size w w':=by
 obtain ⟨aA,an,ac,bA,bn,bc,cA,cn,cc⟩:=x
 have HF:=hd_ hf
 have HD:=hd_ hd
 clear hf hd
 obtain ⟨kn,hkn,hkb⟩:=mod_nat n0 (m:=300) (by decide)
 obtain ⟨day,hday,hdb⟩:=mod_nat n1 (m:=220) (by decide)
 have HKN:=hd_ hkn
 have HDY:=hd_ hday
 clear hkn hday
 have HBN0:=hd_ (box2 w 25 56 #[.slice aA an ac,.slice bA bn bc,.slice cA cn cc] #[.int .i64 n0,.int .i64 n1,.int .i64 n2,.int .i64 n3]).2
 obtain ⟨i0,hi,hz0,hz1,hz2⟩:=info_parts infoI2
 go_enter Tryz.func4,Tryz.ntmps4
 go_wp2_with fail
 refine (r_Made ⟨aA,an,ac,bA,bn,bc,cA,cn,cc⟩ r _ HF.out (HD.out.now (by exact bel_))).mono ?_
 rintro e w1 ⟨y,l,days,DD,dc,d,rfl,hb1,hfy,hl,hM,-,-,-⟩
 obtain ⟨pA,pn,pc,rA,rn,rc,tA,tn,tc,sA,sn,sc⟩:=y
 have HB1:Below w.heap.size w w1:=Below.then_ (by exact bel_) hb1
 have bN1:=HBN0.out.ext hb1
 have HBN1:=hd_ bN1
 have kN:=bN1.cell
 have zN:=bN1.lt
 have HLD:=hd_ hl
 have HFY:=hd_ hfy
 have HM:=hd_ hM
 have hp:preE l [(kn:Int)]=0:=pre_okM hM.led (by simp [daysOk,withinB];omega)
 have HP:=hd_ hp
 clear hl hfy hb1 hM hp bN1
 go_upto_region 3 with ((go_at_call 11;refine (r_Mod_v n0 300 kn _ (by decide) (by decide) HKN.out).mono ?_;rintro e w6 ⟨rfl,rfl⟩))
 clear kN zN
 refine wp_named2 fun f2 W2 hf2 hW2=>?_
 have bL2:BoxA W2 w1.heap.size 32 #[.slice pA pn pc,.slice rA rn rc,.slice tA tn tc,.slice sA sn sc]:=by rw [← hW2];exact BoxA.new _ _ _
 have h12:Below w1.heap.size w1 W2:=by rw [← hW2];exact bel_
 have HB2:Below w.heap.size w W2:=Below.then_ HB1 h12
 have HL2:=hd_ (HLD.out.now h12)
 have bN2:=HBN1.out.ext h12
 have HBN2:=hd_ bN2
 have kL2:=bL2.cell
 have zL2:=bL2.lt
 have hs2:=HB2.size
 clear hW2 HLD h12 bN2
 subst hf2
 by_cases hse:setE l kn=0
 ·have HSX:Hid (soundX l kn=(true,0)):=by show _=_;rw [soundX,if_pos HP.out,hse];rfl
  have HSE:=hd_ hse
  clear hse
  go_wp2_with fail
  refine (p_Sound_v l ⟨pA,pn,pc,rA,rn,rc,tA,tn,tc,sA,sn,sc⟩ kn true 0 _ HFY.out (HL2.out.now (by exact bel_)) HSX.out).mono ?_
  rintro e W3 ⟨rfl,hb3⟩
  have HB3:Below w.heap.size w W3:=Below.then_ HB2 hb3
  have hs3:=HB3.size
  have HL3:=hd_ (HL2.out.now hb3)
  have HBL3:=hd_ (bL2.ext hb3)
  have HBN3:=hd_ (HBN2.out.ext hb3)
  have kN:=HBN3.out.cell
  have zN:=HBN3.out.lt
  have kL:=HBL3.out.cell
  have zL:=HBL3.out.lt
  clear hb3 kL2 zL2 bL2 HL2 HBN2
  go_upto_region 7 with ((go_at_call 11;refine (r_Mod_v n1 220 day _ (by decide) (by decide) HDY.out).mono ?_;rintro e w6 ⟨rfl,rfl⟩))
  clear kN zN kL zL
  obtain ⟨m,hm,hm3⟩:=mod_nat n2 (m:=3) (by decide)
  obtain ⟨p,hp,hpm,hpl1,hpl4,hpi1,hpi5⟩:=pp_at hm3
  have hPP:Pps W3 W3.heap.size pA pn mPp:=by have h:=HL3.out.p;rwa [HM.out.pp] at h
  have hpn3:pn=3:=hPP.len.symm
  subst hpn3
  obtain ⟨gb,go,p',hA,hgb,hp',hc0,hc1⟩:=hPP.at_ (k:=m) (by omega)
  obtain rfl:p=p':=Option.some.inj (hp.symm.trans hp')
  obtain ⟨pid,plv⟩:=p
  dsimp only at hpl1 hpl4 hpi1 hpi5 hc0 hc1
  obtain ⟨pl,rfl⟩:∃ n:Nat,plv=(n:Int):=⟨plv.toNat,by omega⟩
  subst hA
  have HEC:Hid (∀ j u,(ppC ⟨pid,(pl:Int)⟩)[j]?=some u→W3.cell? ⟨gb,go+m*2+j,none⟩=some u):=by
   show ∀ _,_
   intro j u hu
   match j,hu with
   | 0,hu=>simp at hu;subst hu;simpa using hc0
   | 1,hu=>simp at hu;subst hu;exact hc1
  have HMM:=hd_ hm
  have HPM:=hd_ hpm
  have HPI:=hd_ hp
  clear hm hp hp' hpm hPP hc0 hc1
  go_cut [11] from 56 to 56 (fun c wx=>∃ B,c=.pointer (some ⟨B,0,none⟩)∧W3.heap.size≤B∧Below W3.heap.size W3 wx∧BoxA wx B 38 #[.int .i64 pid,.int .i64 (pl:Int)])
  case first =>
   (refine wp_region_sink_lit (S:=KE (w.heap.size+1) w1.heap.size #[.int .i64 n0,.int .i64 n1,.int .i64 n2,.int .i64 n3] #[.slice (some ⟨gb,go,none⟩) 3 pc,.slice rA rn rc,.slice tA tn tc,.slice sA sn sc] gb (go+m*2) (ppC ⟨pid,(pl:Int)⟩)) 8 (by kernel_rfl) rfl rfl (by kernel_rfl) (by kernel_rfl) ⟨⟨HBN3.out.cell,HBL3.out.cell,HBN3.out.lt,HBL3.out.lt⟩,hgb,HEC.out⟩ (fun hS=>?_);simp only [List.take_succ_cons,List.take_zero,List.reduceReplicate,Array.replicate_succ,Array.replicate_zero])
   refine ab9 (fun _ _ _ _ _ h=>h) fun L Q HL HQ HP HN=>?_
   (refine tk9 (i:=0) (v:=?_) HL HP HN rfl ?_ hS ?_;rotate_left;focus (intro w2 hw2;obtain ⟨⟨x1,x2,z1,z2⟩,z3,hec⟩:=hw2;have g0:=hec 0 _ rfl;have g1:=hec 1 _ rfl;simp only [Nat.add_zero] at g0;clear hec;go_simp;first | done | with_reducible rfl);(try simp only [Act.put,pu1,pu2,pu3]))
   (refine tk9 (i:=1) (v:=?_) HL HP HN rfl ?_ hS ?_;rotate_left;focus (intro w2 hw2;obtain ⟨⟨x1,x2,z1,z2⟩,z3,hec⟩:=hw2;have g0:=hec 0 _ rfl;have g1:=hec 1 _ rfl;simp only [Nat.add_zero] at g0;clear hec;go_simp;first | done | with_reducible rfl);(try simp only [Act.put,pu1,pu2,pu3]))
   (refine tk9 (i:=2) (v:=?_) HL HP HN rfl ?_ hS ?_;rotate_left;focus (intro w2 hw2;obtain ⟨⟨x1,x2,z1,z2⟩,z3,hec⟩:=hw2;have g0:=hec 0 _ rfl;have g1:=hec 1 _ rfl;simp only [Nat.add_zero] at g0;clear hec;go_simp;first | done | with_reducible rfl);(try simp only [Act.put,pu1,pu2,pu3]))
   (refine tk9 (i:=3) (v:=?_) HL HP HN rfl ?_ hS ?_;rotate_left;focus (intro w2 hw2;obtain ⟨⟨x1,x2,z1,z2⟩,z3,hec⟩:=hw2;have g0:=hec 0 _ rfl;have g1:=hec 1 _ rfl;simp only [Nat.add_zero] at g0;clear hec;go_simp;first | done | with_reducible rfl);(try simp only [Act.put,pu1,pu2,pu3]))
   refine rd9 [4,7] HL ?_
   refine AllReadyH.consL HL rfl rfl (fun K hK=>?_) (AllReadyH.consL HL rfl rfl (fun K hK=>?_) AllReadyH.nil)
   ·skip
    (go_simp;go_at_call 11;refine (r_Mod_v n2 3 m _ (by decide) (by decide) HMM.out).mono ?_;rintro e w6 ⟨rfl,rfl⟩;go_simp)
    refine hK.out _ _ hS (fun hS=>?_)
    clear hK K
    (try simp only [Act.put,pu1,pu2,pu3])
    (refine tk9 (i:=5) (v:=?_) HL HP HN rfl ?_ hS ?_;rotate_left;focus (intro w2 hw2;obtain ⟨⟨x1,x2,z1,z2⟩,z3,hec⟩:=hw2;have g0:=hec 0 _ rfl;have g1:=hec 1 _ rfl;simp only [Nat.add_zero] at g0;clear hec;go_simp;first | done | with_reducible rfl);(try simp only [Act.put,pu1,pu2,pu3]))
    (refine tk9 (i:=6) (v:=?_) HL HP HN rfl ?_ hS ?_;rotate_left;focus (intro w2 hw2;obtain ⟨⟨x1,x2,z1,z2⟩,z3,hec⟩:=hw2;have g0:=hec 0 _ rfl;have g1:=hec 1 _ rfl;simp only [Nat.add_zero] at g0;clear hec;go_simp;first | done | with_reducible rfl);(try simp only [Act.put,pu1,pu2,pu3]))
    refine rd9 [7] HL ?_
    refine ah9 HL rfl fun K hK=>?_
    go_simp
    refine hK.out _ _ (KE.ext ((Below.refl _ _).alloc lr_ _) hS) (fun hS=>?_)
    clear hK K
    (try simp only [Act.put,pu1,pu2,pu3])
    refine dn9 HL HQ ?_ _
    simp only [sinkQ]
    go_simp
    go_wp2
    go_meet
    exact ⟨_,rfl,lr_,by exact bel_,BoxA.new _ _ _⟩
   ·skip
    go_simp
    refine hK.out _ _ (KE.ext ((Below.refl _ _).alloc lr_ _) hS) (fun hS=>?_)
    clear hK K
    (try simp only [Act.put,pu1,pu2,pu3])
    refine rd9 [4] HL ?_
    refine ah9 HL rfl fun K hK=>?_
    (go_simp;go_at_call 11;refine (r_Mod_v n2 3 m _ (by decide) (by decide) HMM.out).mono ?_;rintro e w6 ⟨rfl,rfl⟩;go_simp)
    refine hK.out _ _ hS (fun hS=>?_)
    clear hK K
    (try simp only [Act.put,pu1,pu2,pu3])
    (refine tk9 (i:=5) (v:=?_) HL HP HN rfl ?_ hS ?_;rotate_left;focus (intro w2 hw2;obtain ⟨⟨x1,x2,z1,z2⟩,z3,hec⟩:=hw2;have g0:=hec 0 _ rfl;have g1:=hec 1 _ rfl;simp only [Nat.add_zero] at g0;clear hec;go_simp;first | done | with_reducible rfl);(try simp only [Act.put,pu1,pu2,pu3]))
    (refine tk9 (i:=6) (v:=?_) HL HP HN rfl ?_ hS ?_;rotate_left;focus (intro w2 hw2;obtain ⟨⟨x1,x2,z1,z2⟩,z3,hec⟩:=hw2;have g0:=hec 0 _ rfl;have g1:=hec 1 _ rfl;simp only [Nat.add_zero] at g0;clear hec;go_simp;first | done | with_reducible rfl);(try simp only [Act.put,pu1,pu2,pu3]))
    refine dn9 HL HQ ?_ _
    simp only [sinkQ]
    go_simp
    go_wp2
    go_meet
    exact ⟨_,rfl,lr_,by exact bel_,BoxA.new _ _ _⟩
  case rest =>
  obtain ⟨B4,rfl,hB4,h4,bQ⟩:=hcut
  obtain ⟨W4,rfl⟩:∃ W4:World,W4=wc:=⟨_,rfl⟩
  have hs4:=h4.size
  have HB4:Below w.heap.size w W4:=Below.then_ HB3 h4
  have HN4:=hd_ (HBN3.out.ext h4)
  have HQ4:=hd_ bQ
  have HL4:=hd_ (HL3.out.now h4)
  have HBL4:=hd_ (HBL3.out.ext h4)
  obtain ⟨v3,hv3,hv3b⟩:=mod_nat n3 (m:=(pl:Int)) (by omega)
  have HV3:=hd_ hv3
  have w8:IntKind.i64.wrap (1+(v3:Int))=1+(v3:Int):=wrap_in (by omega) (by omega)
  clear bQ hv3 HBN3 HL3 HBL3
  go_upto_region 8 with fail
  go_cut [12] from 63 to 63 (fun c wx=>∃ B,c=.pointer (some ⟨B,0,none⟩)∧W4.heap.size≤B∧Below W4.heap.size W4 wx∧BoxA wx B 48 #[.int .i64 pid,.int .i64 (1+(v3:Int))])
  case first =>
   (refine wp_region_sink_lit (S:=K2 (w.heap.size+1) B4 #[.int .i64 n0,.int .i64 n1,.int .i64 n2,.int .i64 n3] #[.int .i64 pid,.int .i64 (pl:Int)]) 10 (by kernel_rfl) rfl rfl (by kernel_rfl) (by kernel_rfl) ⟨HN4.out.cell,HQ4.out.cell,HN4.out.lt,HQ4.out.lt⟩ (fun hS=>?_);simp only [List.take_succ_cons,List.take_zero,List.reduceReplicate,Array.replicate_succ,Array.replicate_zero])
   refine ab9 (fun _ _ _ _ _ h=>h) fun L Q HL HQ HP HN=>?_
   (refine tk9 (i:=0) (v:=?_) HL HP HN rfl ?_ hS ?_;rotate_left;focus (intro w2 hw2;obtain ⟨x1,x2,z1,z2⟩:=hw2;go_simp;first | done | with_reducible rfl);(try simp only [Act.put,pu1,pu2,pu3]))
   (refine tk9 (i:=1) (v:=?_) HL HP HN rfl ?_ hS ?_;rotate_left;focus (intro w2 hw2;obtain ⟨x1,x2,z1,z2⟩:=hw2;go_simp;first | done | with_reducible rfl);(try simp only [Act.put,pu1,pu2,pu3]))
   (refine tk9 (i:=2) (v:=?_) HL HP HN rfl ?_ hS ?_;rotate_left;focus (intro w2 hw2;obtain ⟨x1,x2,z1,z2⟩:=hw2;go_simp;first | done | with_reducible rfl);(try simp only [Act.put,pu1,pu2,pu3]))
   (refine tk9 (i:=3) (v:=?_) HL HP HN rfl ?_ hS ?_;rotate_left;focus (intro w2 hw2;obtain ⟨x1,x2,z1,z2⟩:=hw2;go_simp;first | done | with_reducible rfl);(try simp only [Act.put,pu1,pu2,pu3]))
   (refine tk9 (i:=4) (v:=?_) HL HP HN rfl ?_ hS ?_;rotate_left;focus (intro w2 hw2;obtain ⟨x1,x2,z1,z2⟩:=hw2;go_simp;first | done | with_reducible rfl);(try simp only [Act.put,pu1,pu2,pu3]))
   (refine tk9 (i:=5) (v:=?_) HL HP HN rfl ?_ hS ?_;rotate_left;focus (intro w2 hw2;obtain ⟨x1,x2,z1,z2⟩:=hw2;go_simp;first | done | with_reducible rfl);(try simp only [Act.put,pu1,pu2,pu3]))
   refine rd9 [6,9] HL ?_
   refine AllReadyH.consL HL rfl rfl (fun K hK=>?_) (AllReadyH.consL HL rfl rfl (fun K hK=>?_) AllReadyH.nil)
   ·skip
    (go_simp;go_at_call 11;refine (r_Mod_v n3 (pl:Int) v3 _ (by omega) (by omega) HV3.out).mono ?_;rintro e w6 ⟨rfl,rfl⟩;go_simp)
    refine hK.out _ _ hS (fun hS=>?_)
    clear hK K
    (try simp only [Act.put,pu1,pu2,pu3])
    (refine tk9 (i:=7) (v:=?_) HL HP HN rfl ?_ hS ?_;rotate_left;focus (intro w2 hw2;obtain ⟨x1,x2,z1,z2⟩:=hw2;go_simp;first | done | with_reducible rfl);(try simp only [Act.put,pu1,pu2,pu3]))
    (refine tk9 (i:=8) (v:=?_) HL HP HN rfl ?_ hS ?_;rotate_left;focus (intro w2 hw2;obtain ⟨x1,x2,z1,z2⟩:=hw2;go_simp;first | done | with_reducible rfl);(try simp only [Act.put,pu1,pu2,pu3]))
    refine rd9 [9] HL ?_
    refine ah9 HL rfl fun K hK=>?_
    go_simp
    refine hK.out _ _ (K2.ext ((Below.refl _ _).alloc lr_ _) hS) (fun hS=>?_)
    clear hK K
    (try simp only [Act.put,pu1,pu2,pu3])
    refine dn9 HL HQ ?_ _
    simp only [sinkQ]
    go_simp
    go_wp2
    go_meet
    exact ⟨_,rfl,lr_,by exact bel_,BoxA.new _ _ _⟩
   ·skip
    go_simp
    refine hK.out _ _ (K2.ext ((Below.refl _ _).alloc lr_ _) hS) (fun hS=>?_)
    clear hK K
    (try simp only [Act.put,pu1,pu2,pu3])
    refine rd9 [6] HL ?_
    refine ah9 HL rfl fun K hK=>?_
    (go_simp;go_at_call 11;refine (r_Mod_v n3 (pl:Int) v3 _ (by omega) (by omega) HV3.out).mono ?_;rintro e w6 ⟨rfl,rfl⟩;go_simp)
    refine hK.out _ _ hS (fun hS=>?_)
    clear hK K
    (try simp only [Act.put,pu1,pu2,pu3])
    (refine tk9 (i:=7) (v:=?_) HL HP HN rfl ?_ hS ?_;rotate_left;focus (intro w2 hw2;obtain ⟨x1,x2,z1,z2⟩:=hw2;go_simp;first | done | with_reducible rfl);(try simp only [Act.put,pu1,pu2,pu3]))
    (refine tk9 (i:=8) (v:=?_) HL HP HN rfl ?_ hS ?_;rotate_left;focus (intro w2 hw2;obtain ⟨x1,x2,z1,z2⟩:=hw2;go_simp;first | done | with_reducible rfl);(try simp only [Act.put,pu1,pu2,pu3]))
    refine dn9 HL HQ ?_ _
    simp only [sinkQ]
    go_simp
    go_wp2
    go_meet
    exact ⟨_,rfl,lr_,by exact bel_,BoxA.new _ _ _⟩
  case rest =>
  obtain ⟨B5,rfl,hB5,h5,bF⟩:=hcut
  obtain ⟨W5,rfl⟩:∃ W5:World,W5=wc:=⟨_,rfl⟩
  have hs5:=h5.size
  have HB5:Below w.heap.size w W5:=Below.then_ HB4 h5
  have HQ5:=hd_ (HQ4.out.ext h5)
  have HL5:=hd_ (HL4.out.now h5)
  have HBL5:=hd_ (HBL4.out.ext h5)
  have HBF5:=hd_ bF
  have hlf:1≤1+(v3:Int)∧1+(v3:Int)≤(pl:Int):=by omega
  have hwf:(Lit.int .i64 (1+(v3:Int))).wf=true:=wf_small (by omega) (by omega)
  have hled:ledB l=true:=HM.out.led
  have hdk:daysOk [(day:Int),(kn:Int)]=true:=by simp [daysOk,withinB];omega
  have hpf1:preF l day kn pid 1=0:=preF_zeroA hled hdk (by rw [HM.out.pp];exact lv_in HPM.out)
  have hpf2:preF l day kn pid (1+(v3:Int))=0:=preF_zeroA hled hdk (by rw [HM.out.pp];exact lf_in HPM.out hlf.1 hlf.2)
  have hlv:lvOf l.pp pid=(pl:Int):=by rw [HM.out.pp];exact lv_pp HPM.out
  have hAS:∀ s∈(telX l kn).1,∃ (i:Nat) (d0 d1:Int) (L0 L1 P0 P1:List Int) (q0 q1:Int),l.rt.findIdx? (fun t=>t.src == s)=some i∧daysX l s kn=((d0,d1),0)∧d0≤d1∧AttE l kn day pid (1+(v3:Int)) pl s i false d0 L0 P0 q0∧AttE l kn day pid (1+(v3:Int)) pl s i true d1 L1 P1 q1:=fun s hs=>att_src hled HP.out HSE.out hpf1 hlv hlf.1 hlf.2 hs
  have hSA:¬ (whL l kn day (pid,1+(v3:Int))).length≤1→∀ b∈whL l kn day (pid,1+(v3:Int)),b∈sawL l kn day pid (1+(v3:Int)) (telX l kn).1:=fun h=>saw_all hled HP.out HSE.out h
  have hWN:=where_len (day:=(day:Int)) (pap:=pid) (leaf:=1+(v3:Int)) hled HSE.out
  have hWX:whereX l pid (1+(v3:Int)) day kn=(whL l kn day (pid,1+(v3:Int)),0):=by rw [whereX,if_pos hpf2,if_pos HSE.out]
  have hTX:telX l kn=((telX l kn).1,0):=by rw [telX,if_pos HP.out]
  obtain ⟨wl,hwl⟩:∃ y,whL l kn day (pid,1+(v3:Int))=y:=⟨_,rfl⟩
  obtain ⟨ss,hss⟩:∃ y,(telX l kn).1=y:=⟨_,rfl⟩
  rw [hwl] at hSA hWN hWX
  rw [hss] at hAS hSA hTX
  have HAS:=hd_ hAS
  have HSA:=hd_ hSA
  have HWX:=hd_ hWX
  have HTX:=hd_ hTX
  have HWL:=hd_ hwl
  obtain ⟨hwn1,hwn2⟩:=hWN
  clear bF hled hdk hpf1 hpf2 hlv hAS hSA hWX hTX hss hwl HQ4 HL4 HBL4 HN4
  have kL:=HBL5.out.cell
  have zL:=HBL5.out.lt
  have kF:=HBF5.out.cell
  have zF:=HBF5.out.lt
  go_wp2_with fail
  refine (p_Where_v l ⟨some ⟨gb,go,none⟩,3,pc,rA,rn,rc,tA,tn,tc,sA,sn,sc⟩ pid (1+(v3:Int)) day kn wl 0 _ HFY.out (HL5.out.now (by exact bel_)) hwf HWX.out).mono ?_
  rintro e W6 ⟨Aw,nw,cw,rfl,hb6,hiw,hcw⟩
  have HB6:Below w.heap.size w W6:=Below.then_ HB5 hb6
  have hs6:=HB6.size
  have HL6:=hd_ (HL5.out.now hb6)
  have HBL6:=hd_ (HBL5.out.ext hb6)
  have HBF6:=hd_ (HBF5.out.ext hb6)
  have HQ6:=hd_ (HQ5.out.ext hb6)
  have hnw:=hiw.len
  have HIW6:Hid (Is W6 W6.heap.size Aw nw wl):=by show Is _ _ _ _ _;exact hiw
  obtain ⟨hcw1,hcw2⟩:=hcw
  clear kL zL kF zF hiw hb6 HQ5 HL5 HBL5 HBF5
  have kL:=HBL6.out.cell
  have zL:=HBL6.out.lt
  go_wp2_with fail
  refine (p_Telling_v l ⟨some ⟨gb,go,none⟩,3,pc,rA,rn,rc,tA,tn,tc,sA,sn,sc⟩ kn ss 0 _ HFY.out (HL6.out.now (by exact bel_)) HTX.out).mono ?_
  rintro e W7 ⟨At,nt,ct,rfl,hb7,hit,hct⟩
  have HB7:Below w.heap.size w W7:=Below.then_ HB6 hb7
  have hs7:=HB7.size
  have HL7:=hd_ (HL6.out.now hb7)
  have HBL7:=hd_ (HBL6.out.ext hb7)
  have HBF7:=hd_ (HBF6.out.ext hb7)
  have HQ7:=hd_ (HQ6.out.ext hb7)
  have HIW7:=hd_ (HIW6.out.now hb7)
  have hnt:=hit.len
  have hnt6:nt≤1000000:=by rw [← hnt];exact telX_len HTX.out
  have HIT7:Hid (Is W7 W7.heap.size At nt ss):=by show Is _ _ _ _ _;exact hit
  obtain ⟨hct1,hct2⟩:=hct
  clear kL zL hit hb7 HQ6 HL6 HBL6 HBF6 HIW6
  have hq1:decide ((nw:Int)<1)=false:=by simp;omega
  have hq2:decide ((2:Int)<(nw:Int))=false:=by simp;omega
  have hq3:¬ nw<1:=by omega
  have hq4:¬ 2<nw:=by omega
  have hq5:¬ nw=0:=by omega
  have hntm:nt≤9223372036854775807:=by have:maxLen≤9223372036854775807:=by decide
                                       omega
  have hnwm:nw≤9223372036854775807:=by omega
  have htn6:tn≤1000000:=by have h:=HL7.out.t.len;have h2:=HM.out.tl;dsimp only at h;omega
  go_wp2_with fail
  go_loopw [17,18] (fun v i wr=>∃ (k:Nat),k≤nt∧i=.int .i64 (k:Int)∧wr.ownsRow W7.heap.size 3 1 v (2*k) (intL (sawL l kn day pid (1+(v3:Int)) (ss.take k)))∧Below W7.heap.size W7 wr) (fun _ i _=>nt - (intOf i).toNat)
  case atStart=>exact ⟨0,Nat.zero_le _,rfl,World.ownsRow_nil _ _ _ _,by exact bel_⟩
  case round =>
   obtain ⟨k,hk,rfl,hown,hB⟩:=hrel
   obtain ⟨wk,rfl⟩:∃ wk:World,wk=wr:=⟨_,rfl⟩
   have hs8:=hB.size
   have HOW:=hd_ hown
   have HBW:=hd_ hB
   by_cases hlt:k<nt
   ·obtain ⟨bT,oT,s,hAT,hbT,hks,hcT⟩:=HIT7.out.at_ hlt
    have eT:wk.cell? ⟨bT,oT+k,none⟩=some (.int .i64 s):=(hB.cell (p:=⟨bT,oT+k,none⟩) hbT).trans hcT
    have hbT2:bT<wk.heap.size:=by omega
    obtain ⟨i,d0,d1,L0,L1,P0,P1,q0,q1,hix,hdx,hd01,hE0,hE1⟩:=HAS.out s (List.mem_of_getElem? hks)
    subst hAT
    have HL8:=hd_ (HL7.out.now hB)
    have bL8:=HBL7.out.ext hB
    have HBL8:=hd_ bL8
    have HIX:=hd_ hix
    have HDX:=hd_ hdx
    have HE0:=hd_ hE0
    have HE1:=hd_ hE1
    have HKS:=hd_ hks
    have kL:=bL8.cell
    have zL:=bL8.lt
    clear hown hB hcT hix hdx hE0 hE1 hks bL8
    go_upto_region 17 with fail
    go_cut [19,20] from 102 to 102 (fun c c2 wx=>∃ B,c=.pointer (some ⟨B,0,none⟩)∧c2=.int .i64 0∧wk.heap.size≤B∧Below wk.heap.size wk wx∧BoxA wx B 61 #[.int .i64 d0,.int .i64 d1])
    case first =>
     (refine wp_region_bheld 13 (by kernel_rfl) rfl (fun hS=>?_);simp only [List.reduceReplicate,Array.replicate_succ,Array.replicate_zero])
     refine ab9 (fun _ _ _ _ _ h=>h) fun L Q HL HQ HP HN=>?_
     (refine tk9 (i:=0) (v:=?_) HL HP HN rfl ?_ hS ?_;rotate_left;focus (intro w2 hw2;obtain ⟨hc2,hf2⟩:=bcell hw2;go_simp;first | done | with_reducible rfl);(try simp only [Act.put,pu1,pu2,pu3]))
     (refine tk9 (i:=1) (v:=?_) HL HP HN rfl ?_ hS ?_;rotate_left;focus (intro w2 hw2;obtain ⟨hc2,hf2⟩:=bcell hw2;go_simp;first | done | with_reducible rfl);(try simp only [Act.put,pu1,pu2,pu3]))
     (refine tk9 (i:=2) (v:=?_) HL HP HN rfl ?_ hS ?_;rotate_left;focus (intro w2 hw2;obtain ⟨hc2,hf2⟩:=bcell hw2;go_simp;first | done | with_reducible rfl);(try simp only [Act.put,pu1,pu2,pu3]))
     (refine tk9 (i:=3) (v:=?_) HL HP HN rfl ?_ hS ?_;rotate_left;focus (intro w2 hw2;obtain ⟨hc2,hf2⟩:=bcell hw2;go_simp;first | done | with_reducible rfl);(try simp only [Act.put,pu1,pu2,pu3]))
     (refine tk9 (i:=4) (v:=?_) HL HP HN rfl ?_ hS ?_;rotate_left;focus (intro w2 hw2;obtain ⟨hc2,hf2⟩:=bcell hw2;go_simp;first | done | with_reducible rfl);(try simp only [Act.put,pu1,pu2,pu3]))
     (refine tk9 (i:=5) (v:=?_) HL HP HN rfl ?_ hS ?_;rotate_left;focus (intro w2 hw2;obtain ⟨hc2,hf2⟩:=bcell hw2;go_simp;first | done | with_reducible rfl);(try simp only [Act.put,pu1,pu2,pu3]))
     refine rd9 [6,10] HL ?_
     refine AllReadyH.consL HL rfl rfl (fun K hK=>?_) (AllReadyH.consL HL rfl rfl (fun K hK=>?_) AllReadyH.nil)
     ·skip
      (go_simp;go_at_call 25;refine (p_Days_v l ⟨some ⟨gb,go,none⟩,3,pc,rA,rn,rc,tA,tn,tc,sA,sn,sc⟩ s kn d0 d1 0 _ HFY.out (HL8.out.now hS) HDX.out).mono ?_;rintro e w6 ⟨rfl,hb6⟩;go_simp)
      have h6:Below wk.heap.size wk w6:=Below.then_ hS hb6
      refine hK.out _ _ h6 (fun hS=>?_)
      clear hK K
      (try simp only [Act.put,pu1,pu2,pu3])
      (refine tk9 (i:=7) (v:=?_) HL HP HN rfl ?_ hS ?_;rotate_left;focus (intro w2 hw2;obtain ⟨hc2,hf2⟩:=bcell hw2;go_simp;first | done | with_reducible rfl);(try simp only [Act.put,pu1,pu2,pu3]))
      (refine tk9 (i:=8) (v:=?_) HL HP HN rfl ?_ hS ?_;rotate_left;focus (intro w2 hw2;obtain ⟨hc2,hf2⟩:=bcell hw2;go_simp;first | done | with_reducible rfl);(try simp only [Act.put,pu1,pu2,pu3]))
      (refine tk9 (i:=9) (v:=?_) HL HP HN rfl ?_ hS ?_;rotate_left;focus (intro w2 hw2;obtain ⟨hc2,hf2⟩:=bcell hw2;go_simp;first | done | with_reducible rfl);(try simp only [Act.put,pu1,pu2,pu3]))
      refine rd9 [10] HL ?_
      refine ah9 HL rfl fun K hK=>?_
      go_simp
      have bB:BoxA (w6.alloc (.cells #[.int .i64 0,.int .i64 0] 61)) w6.heap.size 61 #[.int .i64 0,.int .i64 0]:=BoxA.new _ _ _
      have hBB:wk.heap.size≤w6.heap.size:=hS.size
      refine hK.out _ _ (hS.alloc hS.size _) (fun hS=>?_)
      clear hK K
      (try simp only [Act.put,pu1,pu2,pu3])
      refine rd9 [11] HL ?_
      refine ah9 HL rfl fun K hK=>?_
      go_simp
      refine hK.out _ _ ((h6.alloc h6.size _)) (fun hS=>?_)
      clear hK K
      (try simp only [Act.put,pu1,pu2,pu3])
      (refine tk9 (i:=12) (v:=?_) HL HP HN rfl ?_ hS ?_;rotate_left;focus (intro w2 hw2;obtain ⟨hc2,hf2⟩:=bcell hw2;go_simp;first | done | with_reducible rfl);(try simp only [Act.put,pu1,pu2,pu3]))
      refine dn9 HL HQ ?_ _
      go_wp2
      go_meet
      exact ⟨_,rfl,rfl,hBB,hS,BoxA.new _ _ _⟩
     ·skip
      go_simp
      have bB:BoxA (wk.drew.alloc (.cells #[.int .i64 0,.int .i64 0] 61)) wk.heap.size 61 #[.int .i64 0,.int .i64 0]:=BoxA.new _ _ _
      have hBB:wk.heap.size≤wk.heap.size:=hS.size
      refine hK.out _ _ (hS.alloc hS.size _) (fun hS=>?_)
      clear hK K
      (try simp only [Act.put,pu1,pu2,pu3])
      refine rd9 [6] HL ?_
      refine ah9 HL rfl fun K hK=>?_
      (go_simp;go_at_call 25;refine (p_Days_v l ⟨some ⟨gb,go,none⟩,3,pc,rA,rn,rc,tA,tn,tc,sA,sn,sc⟩ s kn d0 d1 0 _ HFY.out (HL8.out.now hS) HDX.out).mono ?_;rintro e w6 ⟨rfl,hb6⟩;go_simp)
      have h6:Below wk.heap.size wk w6:=Below.then_ hS hb6
      have bB:=bB.ext hb6
      refine hK.out _ _ h6 (fun hS=>?_)
      clear hK K
      (try simp only [Act.put,pu1,pu2,pu3])
      (refine tk9 (i:=7) (v:=?_) HL HP HN rfl ?_ hS ?_;rotate_left;focus (intro w2 hw2;obtain ⟨hc2,hf2⟩:=bcell hw2;go_simp;first | done | with_reducible rfl);(try simp only [Act.put,pu1,pu2,pu3]))
      (refine tk9 (i:=8) (v:=?_) HL HP HN rfl ?_ hS ?_;rotate_left;focus (intro w2 hw2;obtain ⟨hc2,hf2⟩:=bcell hw2;go_simp;first | done | with_reducible rfl);(try simp only [Act.put,pu1,pu2,pu3]))
      (refine tk9 (i:=9) (v:=?_) HL HP HN rfl ?_ hS ?_;rotate_left;focus (intro w2 hw2;obtain ⟨hc2,hf2⟩:=bcell hw2;go_simp;first | done | with_reducible rfl);(try simp only [Act.put,pu1,pu2,pu3]))
      refine rd9 [11] HL ?_
      refine ah9 HL rfl fun K hK=>?_
      have kB:=bB.cell
      have zB:=bB.lt
      have fB:=bB.frozen
      go_simp
      refine hK.out _ _ (bel_far (bel_far hS hBB _ _) hBB _ _) (fun hS=>?_)
      clear hK K
      (try simp only [Act.put,pu1,pu2,pu3])
      (refine tk9 (i:=12) (v:=?_) HL HP HN rfl ?_ hS ?_;rotate_left;focus (intro w2 hw2;obtain ⟨hc2,hf2⟩:=bcell hw2;go_simp;first | done | with_reducible rfl);(try simp only [Act.put,pu1,pu2,pu3]))
      refine dn9 HL HQ ?_ _
      go_wp2
      go_meet
      exact ⟨_,rfl,rfl,hBB,hS,bB.set2 _ _⟩
    case rest =>
    obtain ⟨BD,rfl,rfl,hBD,h9,bD⟩:=hcut
    obtain ⟨W9,rfl⟩:∃ W9:World,W9=wc:=⟨_,rfl⟩
    have hs9:=h9.size
    have h79:Below W7.heap.size W7 W9:=Below.then_ HBW.out h9
    have HL9:=hd_ (HL8.out.now h9)
    have bL9:=HBL8.out.ext h9
    have eT9:W9.cell? ⟨bT,oT+k,none⟩=some (.int .i64 s):=(h9.cell (p:=⟨bT,oT+k,none⟩) hbT2).trans eT
    have hbT9:bT<W9.heap.size:=by omega
    have HBD9:=hd_ bD
    have HO9:=hd_ (own_ex HOW.out h9)
    have kD:=bD.cell
    have zD:=bD.lt
    have hdd:decide (d1<d0)=false:=by simp;omega
    have hdd2:¬ d1<d0:=by omega
    clear kL zL eT hbT2 HL8 HBL8 HOW HBW bD h9
    have kL:=bL9.cell
    have zL:=bL9.lt
    have HBL9:=hd_ bL9
    clear bL9
    go_upto_region 20 with fail
    (refine wp_region_grow (by kernel_rfl) (by kernel_rfl) ?_;(repeat (go_big_quiet_step ((first | (go_at_call_of 26 (Value.agg #[.slice (some ⟨gb,go,none⟩) 3 pc,.slice rA rn rc,.slice tA tn tc,.slice sA sn sc]);exact Calls.grow_all (fun g=>w_index_v l ⟨some ⟨gb,go,none⟩,3,pc,rA,rn,rc,tA,tn,tc,sA,sn,sc⟩ s i g.1 htn6 (HL9.out.now g.2) HIX.out))))));refine wpQuiet_nil ?_;rintro w1 ⟨⟨_,hb1⟩,rfl⟩;(try dsimp only at hb1 ⊢);obtain ⟨hc1,hf1⟩:=bcell hb1)
    obtain ⟨W10,rfl⟩:∃ W10:World,W10=w1:=⟨_,rfl⟩
    have h10:=hb1
    have hs10:=h10.size
    have h710:Below W7.heap.size W7 W10:=Below.then_ h79 h10
    have HBD10:=hd_ (HBD9.out.ext h10)
    have HO10:=hd_ (own_ex HO9.out h10)
    clear hb1 hc1 hf1 kL zL kD zD eT9 hbT9 hdd hdd2 HL9 HBL9 HBD9 HO9 h10
    have hBD7:W7.heap.size≤BD:=by omega
    go_wp2_with fail
    go_loopw [17,22] (fun v j wx=>∃ (m:Nat),m≤2∧j=.int .i64 (m:Int)∧wx.ownsRow W7.heap.size 3 1 v (2*k+m) (intL (sawL l kn day pid (1+(v3:Int)) (ss.take k) ++ [q0,q1].take m))∧Below W7.heap.size W7 wx∧BoxA wx BD 61 #[.int .i64 d0,.int .i64 d1]) (fun _ j _=>2 - (intOf j).toNat)
    case atStart=>exact ⟨0,Nat.zero_le _,rfl,by simpa using HO10.out,h710,HBD10.out⟩
    case round =>
     clear HO10 HBD10 h710
     obtain ⟨m,hm,rfl,hown,hB,hBx⟩:=hrel
     obtain ⟨wx,rfl⟩:∃ wx:World,wx=wr:=⟨_,rfl⟩
     have hsx:=hB.size
     have HOW:=hd_ hown
     have HBW:=hd_ hB
     have HBX:=hd_ hBx
     have HLx:=hd_ (HL7.out.now hB)
     have bLx:=HBL7.out.ext hB
     have HBLx:=hd_ bLx
     have eT:wx.cell? ⟨bT,oT+k,none⟩=some (.int .i64 s):=HIT7.out.cell_now hB HKS.out
     have hbT2:bT<wx.heap.size:=by omega
     have kL:=bLx.cell
     have zL:=bLx.lt
     clear hown hB hBx bLx
     by_cases hm2:m<2
     ·have hm01:m=0∨m=1:=by omega
      rcases hm01 with rfl | rfl
      ·skip
       go_upto_region 24 with fail
       go_cut [23,24] from 133 to 133 (fun c c2 wy=>∃ A n cc,c=.slice A n cc∧c2=.int .i64 0∧Below wx.heap.size wx wy∧Is wy wy.heap.size A n L0∧n≤cc∧cc≤maxLen)
       case first =>
        (refine wp_region_bheld 14 (by kernel_rfl) rfl (fun hS=>?_);simp only [List.reduceReplicate,Array.replicate_succ,Array.replicate_zero])
        refine ab9 (fun _ _ _ _ _ h=>h) fun L Q HL HQ HP HN=>?_
        (refine tk9 (i:=0) (v:=?_) HL HP HN rfl ?_ hS ?_;rotate_left;focus (intro w2 hw2;obtain ⟨hc2,hf2⟩:=bcell hw2;go_simp;first | done | with_reducible rfl);(try simp only [Act.put,pu1,pu2,pu3]))
        (refine tk9 (i:=1) (v:=?_) HL HP HN rfl ?_ hS ?_;rotate_left;focus (intro w2 hw2;obtain ⟨hc2,hf2⟩:=bcell hw2;go_simp;first | done | with_reducible rfl);(try simp only [Act.put,pu1,pu2,pu3]))
        (refine tk9 (i:=2) (v:=?_) HL HP HN rfl ?_ hS ?_;rotate_left;focus (intro w2 hw2;obtain ⟨hc2,hf2⟩:=bcell hw2;go_simp;first | done | with_reducible rfl);(try simp only [Act.put,pu1,pu2,pu3]))
        (refine tk9 (i:=3) (v:=?_) HL HP HN rfl ?_ hS ?_;rotate_left;focus (intro w2 hw2;obtain ⟨hc2,hf2⟩:=bcell hw2;go_simp;first | done | with_reducible rfl);(try simp only [Act.put,pu1,pu2,pu3]))
        (refine tk9 (i:=4) (v:=?_) HL HP HN rfl ?_ hS ?_;rotate_left;focus (intro w2 hw2;obtain ⟨hc2,hf2⟩:=bcell hw2;go_simp;first | done | with_reducible rfl);(try simp only [Act.put,pu1,pu2,pu3]))
        (refine tk9 (i:=5) (v:=?_) HL HP HN rfl ?_ hS ?_;rotate_left;focus (intro w2 hw2;obtain ⟨hc2,hf2⟩:=bcell hw2;go_simp;first | done | with_reducible rfl);(try simp only [Act.put,pu1,pu2,pu3]))
        (refine tk9 (i:=6) (v:=?_) HL HP HN rfl ?_ hS ?_;rotate_left;focus (intro w2 hw2;obtain ⟨hc2,hf2⟩:=bcell hw2;go_simp;first | done | with_reducible rfl);(try simp only [Act.put,pu1,pu2,pu3]))
        (refine tk9 (i:=7) (v:=?_) HL HP HN rfl ?_ hS ?_;rotate_left;focus (intro w2 hw2;obtain ⟨hc2,hf2⟩:=bcell hw2;go_simp;first | done | with_reducible rfl);(try simp only [Act.put,pu1,pu2,pu3]))
        refine rd9 [8] HL ?_
        refine ah9 HL rfl fun K hK=>?_
        (go_simp;go_at_call 27;refine (p_Attain_v l ⟨some ⟨gb,go,none⟩,3,pc,rA,rn,rc,tA,tn,tc,sA,sn,sc⟩ s kn false L0 0 _ HFY.out (HLx.out.now hS) HE0.out.at_).mono ?_;rintro e w6 ⟨A6,n6,c6,rfl,hb6,hi6,hc6⟩;go_simp)
        have h6:Below wx.heap.size wx w6:=Below.then_ hS hb6
        refine hK.out _ _ h6 (fun hS=>?_)
        clear hK K
        (try simp only [Act.put,pu1,pu2,pu3])
        (refine tk9 (i:=9) (v:=?_) HL HP HN rfl ?_ hS ?_;rotate_left;focus (intro w2 hw2;obtain ⟨hc2,hf2⟩:=bcell hw2;go_simp;first | done | with_reducible rfl);(try simp only [Act.put,pu1,pu2,pu3]))
        (refine tk9 (i:=10) (v:=?_) HL HP HN rfl ?_ hS ?_;rotate_left;focus (intro w2 hw2;obtain ⟨hc2,hf2⟩:=bcell hw2;go_simp;first | done | with_reducible rfl);(try simp only [Act.put,pu1,pu2,pu3]))
        (refine tk9 (i:=11) (v:=?_) HL HP HN rfl ?_ hS ?_;rotate_left;focus (intro w2 hw2;obtain ⟨hc2,hf2⟩:=bcell hw2;go_simp;first | done | with_reducible rfl);(try simp only [Act.put,pu1,pu2,pu3]))
        (refine tk9 (i:=12) (v:=?_) HL HP HN rfl ?_ hS ?_;rotate_left;focus (intro w2 hw2;obtain ⟨hc2,hf2⟩:=bcell hw2;go_simp;first | done | with_reducible rfl);(try simp only [Act.put,pu1,pu2,pu3]))
        (refine tk9 (i:=13) (v:=?_) HL HP HN rfl ?_ hS ?_;rotate_left;focus (intro w2 hw2;obtain ⟨hc2,hf2⟩:=bcell hw2;go_simp;first | done | with_reducible rfl);(try simp only [Act.put,pu1,pu2,pu3]))
        refine dn9 HL HQ ?_ _
        go_wp2
        go_meet
        exact ⟨A6,n6,c6,rfl,rfl,hS,hi6,hc6.1,hc6.2⟩
       case rest =>
       obtain ⟨A6,n6,c6,rfl,rfl,hb6,hi6,hc6,hc7⟩:=hcut
       obtain ⟨W11,rfl⟩:∃ W11:World,W11=wc:=⟨_,rfl⟩
       have hs11:=hb6.size
       have h711:Below W7.heap.size W7 W11:=Below.then_ HBW.out hb6
       have hn6:=hi6.len
       have hin:i<n6:=by rw [← hn6];exact (List.getElem?_eq_some_iff.1 HE0.out.ix).1
       have hn60:n6≤60:=by rw [← hn6];exact HE0.out.len
       obtain ⟨bX,oX,x6,hAX,hbX,hx6,hcX⟩:=hi6.at_ hin
       obtain rfl:d0=x6:=Option.some.inj (HE0.out.ix.symm.trans hx6)
       subst hAX
       have HI6:Hid (Is W11 W11.heap.size (some ⟨bX,oX,none⟩) n6 L0):=by show Is _ _ _ _ _;exact hi6
       have HL11:=hd_ (HLx.out.now hb6)
       have bL11:=HBLx.out.ext hb6
       have HBL11:=hd_ bL11
       have bD11:=HBX.out.ext hb6
       have HBD11:=hd_ bD11
       have HO11:=hd_ (own_ex HOW.out hb6)
       clear kL zL eT hbT2 hi6 hx6 HLx HBLx HBX HOW HBW hb6
       have kL:=bL11.cell
       have zL:=bL11.lt
       have kD:=bD11.cell
       have zD:=bD11.lt
       have hi0:decide ((i:Int)<0)=false:=by simp
       have hi1:¬ ((i:Int)<0):=by omega
       clear bL11 bD11
       go_upto_region 25 with fail
       (refine wp_region_grow (by kernel_rfl) (by kernel_rfl) ?_;(repeat (go_big_quiet_step ((first | fail | (go_at_call_of 13 (Value.agg #[.slice (some ⟨gb,go,none⟩) 3 pc,.slice rA rn rc,.slice tA tn tc,.slice sA sn sc]);exact Calls.grow_all (fun g=>p_CheckTrue_u l ⟨some ⟨gb,go,none⟩,3,pc,rA,rn,rc,tA,tn,tc,sA,sn,sc⟩ kn L0 (some ⟨bX,oX,none⟩) n6 c6 0 g.1 HFY.out (HL11.out.now g.2) (by omega) (HI6.out.now g.2) HE0.out.ck))))));refine wpQuiet_nil ?_;rintro w1 ⟨⟨_,hb1⟩,rfl⟩;(try dsimp only at hb1 ⊢);obtain ⟨hc1,hf1⟩:=bcell hb1)
       obtain ⟨W12,rfl⟩:∃ W12:World,W12=w1:=⟨_,rfl⟩
       have h12:=hb1
       have hs12:=h12.size
       have h712:Below W7.heap.size W7 W12:=Below.then_ h711 h12
       have HL12:=hd_ (HL11.out.now h12)
       have HI12:=hd_ (HI6.out.now h12)
       have bL12:=HBL11.out.ext h12
       have HBD12:=hd_ (HBD11.out.ext h12)
       have HO12:=hd_ (own_ex HO11.out h12)
       have bQ12:=HQ7.out.ext h712
       clear hb1 hc1 hf1 kL zL kD zD hcX hi0 hi1 HL11 HI6 HBL11 HBD11 HO11 h711 h12
       have kL:=bL12.cell
       have zL:=bL12.lt
       have kQ:=bQ12.cell
       have zQ:=bQ12.lt
       clear bL12 bQ12
       go_wp2_with fail
       refine (p_Placed_u l ⟨some ⟨gb,go,none⟩,3,pc,rA,rn,rc,tA,tn,tc,sA,sn,sc⟩ day kn pid 0 0 0 L0 (some ⟨bX,oX,none⟩) n6 c6 P0 0 _ HFY.out (HL12.out.now (by exact bel_)) (by omega) (HI12.out.now (by exact bel_)) HE0.out.pl).mono ?_
       rintro e W13 ⟨A8,n8,c8,rfl,hb8,hi8,hc8⟩
       have hs13:=hb8.size
       have h713:Below W7.heap.size W7 W13:=Below.then_ h712 hb8
       obtain rfl:pl=n8:=HE0.out.pn.symm.trans hi8.len
       obtain ⟨hc81,hc82⟩:=hc8
       obtain ⟨bP,oP,x8,hAP,hbP,hx8,hcP⟩:=hi8.at_ (k:=v3) (by omega)
       have hpq:P0[v3]?=some q0:=by have h:=HE0.out.pq;rwa [show (1+(v3:Int) - 1).toNat=v3 by omega] at h
       obtain rfl:q0=x8:=Option.some.inj (hpq.symm.trans hx8)
       subst hAP
       have HBD13:=hd_ (HBD12.out.ext hb8)
       have HO13:=hd_ (own_ex HO12.out hb8)
       have bQ13:=HQ7.out.ext h713
       have bF13:=HBF7.out.ext h713
       have hwm:decide (q0∈wl)=true:=by rw [decide_eq_true_eq,← HWL.out];exact HE0.out.mem
       have HWM:=hd_ hwm
       have w28:IntKind.i64.wrap (1+(v3:Int) - 1)=(v3:Int):=by rw [show 1+(v3:Int) - 1=(v3:Int) by omega];exact wrap_in (by omega) (by omega)
       have hv3n:v3<pl:=by omega
       clear kL zL kQ zQ hi8 hx8 hwm HL12 HI12 HBD12 HO12 h712 hb8
       have kQ:=bQ13.cell
       have zQ:=bQ13.lt
       have kF:=bF13.cell
       have zF:=bF13.lt
       clear bQ13 bF13
       go_upto_region 30 with ((go_at_call 18;refine (r_Has2_v wl q0 true Aw nw cw _ hnwm (HIW7.out.now (Below.then_ h713 (by exact bel_))) HWM.out).mono ?_;rintro e w14 ⟨rfl,hb14⟩;have h1314:Below W13.heap.size W13 w14:=Below.then_ (by exact bel_) hb14;have bF14:=HBF7.out.ext (Below.then_ h713 h1314);have kF14:=bF14.cell;have zF14:=bF14.lt;have hcP14:=(h1314.cell (p:=⟨bP,oP+v3,none⟩) hbP).trans hcP;have hs14:=h1314.size;clear hb14 bF14))
       refine wp_named2 fun f14 W14 hf14 hW14=>?_
       rw [hW14] at h1314 kF14 zF14 hcP14 hs14
       clear hW14 kQ zQ kF zF
       subst hf14
       have h714:Below W7.heap.size W7 W14:=Below.then_ h713 h1314
       have HBD14:=hd_ (HBD13.out.ext h1314)
       have HO14:=hd_ (own_ex HO13.out h1314)
       have hbP14:bP<W14.heap.size:=by omega
       have hg:=HO14.out
       have h714a:=h714.alloc (show W7.heap.size≤W14.heap.size from h714.size) (.cells #[.int .i64 q0] 3)
       have hbA:=HBD14.out.alloc (.cells #[.int .i64 q0] 3)
       have hne:=own_ne hg HBD14.out (by decide)
       go_wp2_with (at_builtin;refine wpList_append_own _ rfl (.tmp 218) (.tmp 225) 33 rfl (W7.heap.size) 3 i0 _ 1 8 Tryz.underlying33 hi hz0 hz1 hz2 rfl (by decide) _ _ _ rfl (hg.alloc _) ⟨W14.heap.size,0,none⟩ 1 1 [.int .i64 q0] rfl rfl ?c1 ?c2 ?c3 ?c4 ?c5 ?_;rotate_left 5;intro v' w2 hown2 hgrow2 _)
       (try (case c1=>(exact new_at (by rfl))))
       (try (case c2=>(simp [Value.oneCell'])))
       (try (case c3=>(unfold maxLen;omega)))
       (try (case c4=>(omega)))
       (try (case c5=>(simp;omega)))
       go_roundw
       case rel =>
        refine ⟨1,by omega,rfl,?_,OwnB.below h714a hg (by simp;omega) hgrow2,hbA.kept hgrow2 hne⟩
        simpa [intL] using hown2
       case measure=>simp [intOf]
      ·skip
       go_upto_region 24 with fail
       go_cut [23,24] from 133 to 133 (fun c c2 wy=>∃ A n cc,c=.slice A n cc∧c2=.int .i64 0∧Below wx.heap.size wx wy∧Is wy wy.heap.size A n L1∧n≤cc∧cc≤maxLen)
       case first =>
        (refine wp_region_bheld 14 (by kernel_rfl) rfl (fun hS=>?_);simp only [List.reduceReplicate,Array.replicate_succ,Array.replicate_zero])
        refine ab9 (fun _ _ _ _ _ h=>h) fun L Q HL HQ HP HN=>?_
        (refine tk9 (i:=0) (v:=?_) HL HP HN rfl ?_ hS ?_;rotate_left;focus (intro w2 hw2;obtain ⟨hc2,hf2⟩:=bcell hw2;go_simp;first | done | with_reducible rfl);(try simp only [Act.put,pu1,pu2,pu3]))
        (refine tk9 (i:=1) (v:=?_) HL HP HN rfl ?_ hS ?_;rotate_left;focus (intro w2 hw2;obtain ⟨hc2,hf2⟩:=bcell hw2;go_simp;first | done | with_reducible rfl);(try simp only [Act.put,pu1,pu2,pu3]))
        (refine tk9 (i:=2) (v:=?_) HL HP HN rfl ?_ hS ?_;rotate_left;focus (intro w2 hw2;obtain ⟨hc2,hf2⟩:=bcell hw2;go_simp;first | done | with_reducible rfl);(try simp only [Act.put,pu1,pu2,pu3]))
        (refine tk9 (i:=3) (v:=?_) HL HP HN rfl ?_ hS ?_;rotate_left;focus (intro w2 hw2;obtain ⟨hc2,hf2⟩:=bcell hw2;go_simp;first | done | with_reducible rfl);(try simp only [Act.put,pu1,pu2,pu3]))
        (refine tk9 (i:=4) (v:=?_) HL HP HN rfl ?_ hS ?_;rotate_left;focus (intro w2 hw2;obtain ⟨hc2,hf2⟩:=bcell hw2;go_simp;first | done | with_reducible rfl);(try simp only [Act.put,pu1,pu2,pu3]))
        (refine tk9 (i:=5) (v:=?_) HL HP HN rfl ?_ hS ?_;rotate_left;focus (intro w2 hw2;obtain ⟨hc2,hf2⟩:=bcell hw2;go_simp;first | done | with_reducible rfl);(try simp only [Act.put,pu1,pu2,pu3]))
        (refine tk9 (i:=6) (v:=?_) HL HP HN rfl ?_ hS ?_;rotate_left;focus (intro w2 hw2;obtain ⟨hc2,hf2⟩:=bcell hw2;go_simp;first | done | with_reducible rfl);(try simp only [Act.put,pu1,pu2,pu3]))
        (refine tk9 (i:=7) (v:=?_) HL HP HN rfl ?_ hS ?_;rotate_left;focus (intro w2 hw2;obtain ⟨hc2,hf2⟩:=bcell hw2;go_simp;first | done | with_reducible rfl);(try simp only [Act.put,pu1,pu2,pu3]))
        refine rd9 [8] HL ?_
        refine ah9 HL rfl fun K hK=>?_
        (go_simp;go_at_call 27;refine (p_Attain_v l ⟨some ⟨gb,go,none⟩,3,pc,rA,rn,rc,tA,tn,tc,sA,sn,sc⟩ s kn true L1 0 _ HFY.out (HLx.out.now hS) HE1.out.at_).mono ?_;rintro e w6 ⟨A6,n6,c6,rfl,hb6,hi6,hc6⟩;go_simp)
        have h6:Below wx.heap.size wx w6:=Below.then_ hS hb6
        refine hK.out _ _ h6 (fun hS=>?_)
        clear hK K
        (try simp only [Act.put,pu1,pu2,pu3])
        (refine tk9 (i:=9) (v:=?_) HL HP HN rfl ?_ hS ?_;rotate_left;focus (intro w2 hw2;obtain ⟨hc2,hf2⟩:=bcell hw2;go_simp;first | done | with_reducible rfl);(try simp only [Act.put,pu1,pu2,pu3]))
        (refine tk9 (i:=10) (v:=?_) HL HP HN rfl ?_ hS ?_;rotate_left;focus (intro w2 hw2;obtain ⟨hc2,hf2⟩:=bcell hw2;go_simp;first | done | with_reducible rfl);(try simp only [Act.put,pu1,pu2,pu3]))
        (refine tk9 (i:=11) (v:=?_) HL HP HN rfl ?_ hS ?_;rotate_left;focus (intro w2 hw2;obtain ⟨hc2,hf2⟩:=bcell hw2;go_simp;first | done | with_reducible rfl);(try simp only [Act.put,pu1,pu2,pu3]))
        (refine tk9 (i:=12) (v:=?_) HL HP HN rfl ?_ hS ?_;rotate_left;focus (intro w2 hw2;obtain ⟨hc2,hf2⟩:=bcell hw2;go_simp;first | done | with_reducible rfl);(try simp only [Act.put,pu1,pu2,pu3]))
        (refine tk9 (i:=13) (v:=?_) HL HP HN rfl ?_ hS ?_;rotate_left;focus (intro w2 hw2;obtain ⟨hc2,hf2⟩:=bcell hw2;go_simp;first | done | with_reducible rfl);(try simp only [Act.put,pu1,pu2,pu3]))
        refine dn9 HL HQ ?_ _
        go_wp2
        go_meet
        exact ⟨A6,n6,c6,rfl,rfl,hS,hi6,hc6.1,hc6.2⟩
       case rest =>
       obtain ⟨A6,n6,c6,rfl,rfl,hb6,hi6,hc6,hc7⟩:=hcut
       obtain ⟨W11,rfl⟩:∃ W11:World,W11=wc:=⟨_,rfl⟩
       have hs11:=hb6.size
       have h711:Below W7.heap.size W7 W11:=Below.then_ HBW.out hb6
       have hn6:=hi6.len
       have hin:i<n6:=by rw [← hn6];exact (List.getElem?_eq_some_iff.1 HE1.out.ix).1
       have hn60:n6≤60:=by rw [← hn6];exact HE1.out.len
       obtain ⟨bX,oX,x6,hAX,hbX,hx6,hcX⟩:=hi6.at_ hin
       obtain rfl:d1=x6:=Option.some.inj (HE1.out.ix.symm.trans hx6)
       subst hAX
       have HI6:Hid (Is W11 W11.heap.size (some ⟨bX,oX,none⟩) n6 L1):=by show Is _ _ _ _ _;exact hi6
       have HL11:=hd_ (HLx.out.now hb6)
       have bL11:=HBLx.out.ext hb6
       have HBL11:=hd_ bL11
       have bD11:=HBX.out.ext hb6
       have HBD11:=hd_ bD11
       have HO11:=hd_ (own_ex HOW.out hb6)
       clear kL zL eT hbT2 hi6 hx6 HLx HBLx HBX HOW HBW hb6
       have kL:=bL11.cell
       have zL:=bL11.lt
       have kD:=bD11.cell
       have zD:=bD11.lt
       have hi0:decide ((i:Int)<0)=false:=by simp
       have hi1:¬ ((i:Int)<0):=by omega
       clear bL11 bD11
       go_upto_region 25 with fail
       (refine wp_region_grow (by kernel_rfl) (by kernel_rfl) ?_;(repeat (go_big_quiet_step ((first | fail | (go_at_call_of 13 (Value.agg #[.slice (some ⟨gb,go,none⟩) 3 pc,.slice rA rn rc,.slice tA tn tc,.slice sA sn sc]);exact Calls.grow_all (fun g=>p_CheckTrue_u l ⟨some ⟨gb,go,none⟩,3,pc,rA,rn,rc,tA,tn,tc,sA,sn,sc⟩ kn L1 (some ⟨bX,oX,none⟩) n6 c6 0 g.1 HFY.out (HL11.out.now g.2) (by omega) (HI6.out.now g.2) HE1.out.ck))))));refine wpQuiet_nil ?_;rintro w1 ⟨⟨_,hb1⟩,rfl⟩;(try dsimp only at hb1 ⊢);obtain ⟨hc1,hf1⟩:=bcell hb1)
       obtain ⟨W12,rfl⟩:∃ W12:World,W12=w1:=⟨_,rfl⟩
       have h12:=hb1
       have hs12:=h12.size
       have h712:Below W7.heap.size W7 W12:=Below.then_ h711 h12
       have HL12:=hd_ (HL11.out.now h12)
       have HI12:=hd_ (HI6.out.now h12)
       have bL12:=HBL11.out.ext h12
       have HBD12:=hd_ (HBD11.out.ext h12)
       have HO12:=hd_ (own_ex HO11.out h12)
       have bQ12:=HQ7.out.ext h712
       clear hb1 hc1 hf1 kL zL kD zD hcX hi0 hi1 HL11 HI6 HBL11 HBD11 HO11 h711 h12
       have kL:=bL12.cell
       have zL:=bL12.lt
       have kQ:=bQ12.cell
       have zQ:=bQ12.lt
       clear bL12 bQ12
       go_wp2_with fail
       refine (p_Placed_u l ⟨some ⟨gb,go,none⟩,3,pc,rA,rn,rc,tA,tn,tc,sA,sn,sc⟩ day kn pid 0 0 0 L1 (some ⟨bX,oX,none⟩) n6 c6 P1 0 _ HFY.out (HL12.out.now (by exact bel_)) (by omega) (HI12.out.now (by exact bel_)) HE1.out.pl).mono ?_
       rintro e W13 ⟨A8,n8,c8,rfl,hb8,hi8,hc8⟩
       have hs13:=hb8.size
       have h713:Below W7.heap.size W7 W13:=Below.then_ h712 hb8
       obtain rfl:pl=n8:=HE1.out.pn.symm.trans hi8.len
       obtain ⟨hc81,hc82⟩:=hc8
       obtain ⟨bP,oP,x8,hAP,hbP,hx8,hcP⟩:=hi8.at_ (k:=v3) (by omega)
       have hpq:P1[v3]?=some q1:=by have h:=HE1.out.pq;rwa [show (1+(v3:Int) - 1).toNat=v3 by omega] at h
       obtain rfl:q1=x8:=Option.some.inj (hpq.symm.trans hx8)
       subst hAP
       have HBD13:=hd_ (HBD12.out.ext hb8)
       have HO13:=hd_ (own_ex HO12.out hb8)
       have bQ13:=HQ7.out.ext h713
       have bF13:=HBF7.out.ext h713
       have hwm:decide (q1∈wl)=true:=by rw [decide_eq_true_eq,← HWL.out];exact HE1.out.mem
       have HWM:=hd_ hwm
       have w28:IntKind.i64.wrap (1+(v3:Int) - 1)=(v3:Int):=by rw [show 1+(v3:Int) - 1=(v3:Int) by omega];exact wrap_in (by omega) (by omega)
       have hv3n:v3<pl:=by omega
       clear kL zL kQ zQ hi8 hx8 hwm HL12 HI12 HBD12 HO12 h712 hb8
       have kQ:=bQ13.cell
       have zQ:=bQ13.lt
       have kF:=bF13.cell
       have zF:=bF13.lt
       clear bQ13 bF13
       go_upto_region 30 with ((go_at_call 18;refine (r_Has2_v wl q1 true Aw nw cw _ hnwm (HIW7.out.now (Below.then_ h713 (by exact bel_))) HWM.out).mono ?_;rintro e w14 ⟨rfl,hb14⟩;have h1314:Below W13.heap.size W13 w14:=Below.then_ (by exact bel_) hb14;have bF14:=HBF7.out.ext (Below.then_ h713 h1314);have kF14:=bF14.cell;have zF14:=bF14.lt;have hcP14:=(h1314.cell (p:=⟨bP,oP+v3,none⟩) hbP).trans hcP;have hs14:=h1314.size;clear hb14 bF14))
       refine wp_named2 fun f14 W14 hf14 hW14=>?_
       rw [hW14] at h1314 kF14 zF14 hcP14 hs14
       clear hW14 kQ zQ kF zF
       subst hf14
       have h714:Below W7.heap.size W7 W14:=Below.then_ h713 h1314
       have HBD14:=hd_ (HBD13.out.ext h1314)
       have HO14:=hd_ (own_ex HO13.out h1314)
       have hbP14:bP<W14.heap.size:=by omega
       have hg:=HO14.out
       have h714a:=h714.alloc (show W7.heap.size≤W14.heap.size from h714.size) (.cells #[.int .i64 q1] 3)
       have hbA:=HBD14.out.alloc (.cells #[.int .i64 q1] 3)
       have hne:=own_ne hg HBD14.out (by decide)
       go_wp2_with (at_builtin;refine wpList_append_own _ rfl (.tmp 218) (.tmp 225) 33 rfl (W7.heap.size) 3 i0 _ 1 8 Tryz.underlying33 hi hz0 hz1 hz2 rfl (by decide) _ _ _ rfl (hg.alloc _) ⟨W14.heap.size,0,none⟩ 1 1 [.int .i64 q1] rfl rfl ?d1 ?d2 ?d3 ?d4 ?d5 ?_;rotate_left 5;intro v' w2 hown2 hgrow2 _)
       (try (case d1=>(exact new_at (by rfl))))
       (try (case d2=>(simp [Value.oneCell'])))
       (try (case d3=>(unfold maxLen;omega)))
       (try (case d4=>(omega)))
       (try (case d5=>(simp;omega)))
       go_roundw
       case rel =>
        refine ⟨2,by omega,rfl,?_,OwnB.below h714a hg (by simp;omega) hgrow2,hbA.kept hgrow2 hne⟩
        simpa [intL] using hown2
       case measure=>simp [intOf]
     ·obtain rfl:m=2:=by omega
      clear kL zL eT
      go_wp2_with fail
      go_roundw
      case rel =>
       refine ⟨k+1,by omega,by go_num,?_,HBW.out⟩
       rw [saw_snoc HKS.out HE0.out.at_ HE1.out.at_ HE0.out.who HE1.out.who,show 2*(k+1)=2*k+2 by omega,List.append_assoc]
       exact HOW.out
      case measure=>exact ms_
   ·obtain rfl:k=nt:=by omega
    obtain ⟨AS,cS,rfl,hcS⟩:=own_slice hown
    have his:Is wk wk.heap.size AS (2*k) (sawL l kn day pid (1+(v3:Int)) ss):=by
     have h:=Rd.of_own hown
     rw [List.take_of_length_le (by omega)] at h
     exact h
    have HIS:=hd_ his
    have hk60:2*k≤9223372036854775807:=by have:=hcS.1;have:=hcS.2;unfold maxLen at *;omega
    clear his hown hB HOW
    go_wp2_with fail
    go_loopw [27] (fun j wx=>∃ (m:Nat),m≤nw∧j=.int .i64 (m:Int)∧Below wk.heap.size wk wx) (fun j _=>nw - (intOf j).toNat)
    case atStart=>exact ⟨0,Nat.zero_le _,rfl,by exact bel_⟩
    case round =>
     obtain ⟨m,hm,rfl,hB3⟩:=hrel
     obtain ⟨wx,rfl⟩:∃ wx:World,wx=wr:=⟨_,rfl⟩
     have hs3:=hB3.size
     have HB3x:=hd_ hB3
     by_cases hmn:m<nw
     ·by_cases hn1:1<nw
      ·obtain ⟨bW,oW,b,hAW,hbW,hbm,hcW⟩:=HIW7.out.at_ hmn
       have eW:wx.cell? ⟨bW,oW+m,none⟩=some (.int .i64 b):=((Below.then_ HBW.out hB3).cell (p:=⟨bW,oW+m,none⟩) hbW).trans hcW
       have hmem:decide (b∈sawL l kn day pid (1+(v3:Int)) ss)=true:=by rw [decide_eq_true_eq];exact HSA.out (by omega) b (List.mem_of_getElem? hbm)
       have HMM2:=hd_ hmem
       have hbW2:bW<wx.heap.size:=by omega
       subst hAW
       clear hmem hbm hcW hB3
       go_wp2_with ((go_at_call 18;refine (r_Has2_v (sawL l kn day pid (1+(v3:Int)) ss) b true AS (2*k) cS _ hk60 (HIS.out.now (Below.then_ HB3x.out (by exact bel_))) HMM2.out).mono ?_;rintro e w9 ⟨rfl,hb9⟩;have h39:Below wx.heap.size wx w9:=Below.then_ (by exact bel_) hb9))
       go_roundw
       case rel=>exact ⟨m+1,by omega,by go_num,Below.then_ HB3x.out h39⟩
       case measure=>exact ms_
      ·clear hB3
       go_wp2_with fail
       refine (r_sane2 _).mono ?_
       rintro e w9 ⟨rfl,hb9⟩
       go_wp2_with fail
       go_ret
       exact ⟨rfl,Below.then_ (Below.then_ (Below.then_ HB7 HBW.out) HB3x.out) (Below.then_ (by exact bel_) hb9)⟩
     ·clear hB3
      go_wp2_with fail
      refine (r_sane2 _).mono ?_
      rintro e w9 ⟨rfl,hb9⟩
      go_wp2_with fail
      go_ret
      exact ⟨rfl,Below.then_ (Below.then_ (Below.then_ HB7 HBW.out) HB3x.out) (Below.then_ (by exact bel_) hb9)⟩
 ·have HSX:Hid (soundX l kn=(false,0)):=by show _=_;rw [soundX,if_pos HP.out];simp [hse]
  clear hse
  go_wp2_with fail
  refine (p_Sound_v l ⟨pA,pn,pc,rA,rn,rc,tA,tn,tc,sA,sn,sc⟩ kn false 0 _ HFY.out (HL2.out.now (by exact bel_)) HSX.out).mono ?_
  rintro e W3 ⟨rfl,hb3⟩
  have HB3:Below w.heap.size w W3:=Below.then_ HB2 hb3
  have hs3:=HB3.size
  clear hb3 kL2 zL2 bL2
  go_wp2_with fail
  refine (r_sane2 _).mono ?_
  rintro e w9 ⟨rfl,hb9⟩
  have HB9:=Below.then_ HB3 hb9
  go_wp2_with fail
  go_ret
  exact ⟨rfl,HB9⟩
end Go.Proofs.YtmcmbicapdcfmaaGreat
namespace Go.Proofs.YtmcmbicapdcfmaaGreat
open Go.ChangeShapes Go.WideShapes Go.ChangeAt Go.RowKit Go.Deep Go.Joins Go.Maps

theorem c5_arr : Tryz.prog.cellsOf 68 = 5 := by kernel_rfl
theorem c7_arr : Tryz.prog.cellsOf 129 = 7 := by kernel_rfl
theorem c1_r5 : Tryz.prog.cellsOf 22 = 1 := by kernel_rfl
theorem c1_r7 : Tryz.prog.cellsOf 23 = 1 := by kernel_rfl
theorem c3_raw : Tryz.prog.cellsOf 25 = 3 := by kernel_rfl
theorem lenx3 {α : Type} : ∀ {l : List α}, l.length = 3 → ∃ a b c, l = [a, b, c]
  | [a, b, c], _ => ⟨a, b, c, rfl⟩
theorem okWide_arr2 {P : Program} {w : World} {r : Reach} {b0 : Nat} {v : Value} {t e : TypeId} {n : Nat} (ht : P.underlying t = some (.array n e)) (h : Value.okWide P w r b0 t v) : ∃ cs, v = .agg cs := by
  simp only [Value.okWide, ht] at h
  obtain ⟨cs, h1, _⟩ := h
  exact ⟨cs, h1⟩
theorem lenx5 {α : Type} : ∀ {l : List α}, l.length = 5 → ∃ a0 a1 a2 a3 a4, l = [a0, a1, a2, a3, a4]
  | [a0, a1, a2, a3, a4], _ => ⟨a0, a1, a2, a3, a4, rfl⟩
section
variable {H : Type} {enc : TypeId × Value → H} {w : World} {base : Nat} {spare : Nat → Bool} {held : Bool} {r : Reach} {b0 : Nat} {v : Value} {d : DataW H} {p : List MemPlace} {fuel : Nat} {cs : List Value} {x : DataW H × List MemPlace}
theorem arr5_of (h : DataW.trod enc Tryz.prog w base spare held fuel 68 cs = some x) : ∃ l : List Int, l.length = 5 ∧ cs = intL l := by
  obtain ⟨xs, n, _, _, hl, hx, hf⟩ := DataW.trod_array Tryz.underlying68 h
  rw [c5_arr] at hl
  obtain ⟨y0, e0⟩ := some_at hx (i := 0) (by decide)
  obtain ⟨y1, e1⟩ := some_at hx (i := 1) (by decide)
  obtain ⟨y2, e2⟩ := some_at hx (i := 2) (by decide)
  obtain ⟨y3, e3⟩ := some_at hx (i := 3) (by decide)
  obtain ⟨y4, e4⟩ := some_at hx (i := 4) (by decide)
  obtain ⟨c0, c1, c2, c3, c4, rfl⟩ := lenx5 hl
  obtain ⟨a0, h0⟩ := int_of ((hf 0 (by decide)).trans e0)
  obtain ⟨a1, h1⟩ := int_of ((hf 1 (by decide)).trans e1)
  obtain ⟨a2, h2⟩ := int_of ((hf 2 (by decide)).trans e2)
  obtain ⟨a3, h3⟩ := int_of ((hf 3 (by decide)).trans e3)
  obtain ⟨a4, h4⟩ := int_of ((hf 4 (by decide)).trans e4)
  simp [c1_int] at h0 h1 h2 h3 h4
  exact ⟨[a0, a1, a2, a3, a4], rfl, by simp [intL, h0, h1, h2, h3, h4]⟩
theorem arr7_of (h : DataW.trod enc Tryz.prog w base spare held fuel 129 cs = some x) : ∃ l : List Int, l.length = 7 ∧ cs = intL l := by
  obtain ⟨xs, n, _, _, hl, hx, hf⟩ := DataW.trod_array Tryz.underlying129 h
  rw [c7_arr] at hl
  obtain ⟨y0, e0⟩ := some_at hx (i := 0) (by decide)
  obtain ⟨y1, e1⟩ := some_at hx (i := 1) (by decide)
  obtain ⟨y2, e2⟩ := some_at hx (i := 2) (by decide)
  obtain ⟨y3, e3⟩ := some_at hx (i := 3) (by decide)
  obtain ⟨y4, e4⟩ := some_at hx (i := 4) (by decide)
  obtain ⟨y5, e5⟩ := some_at hx (i := 5) (by decide)
  obtain ⟨y6, e6⟩ := some_at hx (i := 6) (by decide)
  obtain ⟨c0, c1, c2, c3, c4, c5, c6, rfl⟩ := lenx7 hl
  obtain ⟨a0, h0⟩ := int_of ((hf 0 (by decide)).trans e0)
  obtain ⟨a1, h1⟩ := int_of ((hf 1 (by decide)).trans e1)
  obtain ⟨a2, h2⟩ := int_of ((hf 2 (by decide)).trans e2)
  obtain ⟨a3, h3⟩ := int_of ((hf 3 (by decide)).trans e3)
  obtain ⟨a4, h4⟩ := int_of ((hf 4 (by decide)).trans e4)
  obtain ⟨a5, h5⟩ := int_of ((hf 5 (by decide)).trans e5)
  obtain ⟨a6, h6⟩ := int_of ((hf 6 (by decide)).trans e6)
  simp [c1_int] at h0 h1 h2 h3 h4 h5 h6
  exact ⟨[a0, a1, a2, a3, a4, a5, a6], rfl, by simp [intL, h0, h1, h2, h3, h4, h5, h6]⟩
theorem flat_int {s : Nat} (l : List { l : List Int // l.length = s }) : l.flatMap (fun v => intL v.1) = intL (l.flatMap Subtype.val) := by
  induction l with
  | nil => rfl
  | cons a l ih => rw [List.flatMap_cons, ih, List.flatMap_cons]; simp [intL]
theorem r5_of {A : Option Addr} {n c : Nat} (h : DataW.trod enc Tryz.prog w base spare held fuel 22 (Value.slice A n c).cells.toList = some x) : n ≤ c ∧ c ≤ maxLen ∧ ∃ l : List Int, Rd w w.heap.size 5 A n (intL l) := by
  obtain ⟨h1, h2, l, _, h3⟩ := row_of (α := { l : List Int // l.length = 5 }) (fun v => intL v.1) (fun v => by simp [intL, v.2]) (by decide) Tryz.underlying22 c5_arr (fun _ _ _ h => by obtain ⟨v, e, hv⟩ := arr5_of h; exact ⟨⟨v, e⟩, hv⟩) h
  rw [flat_int] at h3
  exact ⟨h1, h2, _, h3⟩
theorem r7_of {A : Option Addr} {n c : Nat} (h : DataW.trod enc Tryz.prog w base spare held fuel 23 (Value.slice A n c).cells.toList = some x) : n ≤ c ∧ c ≤ maxLen ∧ ∃ l : List Int, Rd w w.heap.size 7 A n (intL l) := by
  obtain ⟨h1, h2, l, _, h3⟩ := row_of (α := { l : List Int // l.length = 7 }) (fun v => intL v.1) (fun v => by simp [intL, v.2]) (by decide) Tryz.underlying23 c7_arr (fun _ _ _ h => by obtain ⟨v, e, hv⟩ := arr7_of h; exact ⟨⟨v, e⟩, hv⟩) h
  rw [flat_int] at h3
  exact ⟨h1, h2, _, h3⟩
set_option maxRecDepth 100000 in
theorem raw_of (hv : Value.okWide Tryz.prog w r b0 25 v) (h : DataW.Trod enc Tryz.prog w base spare held 25 v d p) : ∃ (y : Rsl) (l : RawL), v = .agg #[.slice y.aA y.an y.ac, .slice y.bA y.bn y.bc, .slice y.cA y.cn y.cc] ∧ y.fit ∧ RawIn w y l := by
  obtain ⟨cs, rfl, _⟩ := okWide_struct Tryz.underlying25 hv
  obtain ⟨fuel, hf0⟩ := h
  simp only [Value.cells] at hf0
  obtain ⟨xs, n, _, _, hl, hx, hf⟩ := DataW.trod_struct Tryz.underlying25 hf0
  rw [c3_raw] at hl
  obtain ⟨y0, e0⟩ := some_at hx (i := 0) (by decide)
  obtain ⟨y1, e1⟩ := some_at hx (i := 1) (by decide)
  obtain ⟨y2, e2⟩ := some_at hx (i := 2) (by decide)
  obtain ⟨c0, c1, c2, hcs⟩ := lenx3 hl
  rw [hcs] at hf
  have t0 := (hf 0 _ rfl).trans e0
  have t1 := (hf 1 _ rfl).trans e1
  have t2 := (hf 2 _ rfl).trans e2
  obtain ⟨A0, n0, q0, h0⟩ := slice_cell Tryz.underlying22 t0
  obtain ⟨A1, n1, q1, h1⟩ := slice_cell Tryz.underlying23 t1
  obtain ⟨A2, n2, q2, h2⟩ := slice_cell Tryz.underlying22 t2
  rw [h0] at t0
  rw [h1] at t1
  rw [h2] at t2
  obtain ⟨f0, g0, l0, k0⟩ := r5_of t0
  obtain ⟨f1, g1, l1, k1⟩ := r7_of t1
  obtain ⟨f2, g2, l2, k2⟩ := r5_of t2
  simp [c1_r5, c1_r7, Value.cells] at h0 h1 h2
  refine ⟨⟨A0, n0, q0, A1, n1, q1, A2, n2, q2⟩, ⟨l0, l1, l2⟩, ?_, ⟨⟨f0, g0⟩, ⟨f1, g1⟩, ⟨f2, g2⟩⟩, ⟨k0, k1, k2⟩⟩
  congr 1
  apply Array.toList_inj.1
  rw [hcs]
  simp [h0, h1, h2]
theorem c4_four : Tryz.prog.cellsOf 56 = 4 := by kernel_rfl
set_option maxRecDepth 100000 in
theorem four_of (hv : Value.okWide Tryz.prog w r b0 56 v) (h : DataW.Trod enc Tryz.prog w base spare held 56 v d p) : ∃ a b c e : Int, v = .agg #[.int .i64 a, .int .i64 b, .int .i64 c, .int .i64 e] := by
  obtain ⟨cs, rfl⟩ := okWide_arr2 Tryz.underlying56 hv
  obtain ⟨fuel, hf0⟩ := h
  simp only [Value.cells] at hf0
  obtain ⟨xs, n, _, _, hl, hx, hf⟩ := DataW.trod_array Tryz.underlying56 hf0
  rw [c4_four] at hl
  obtain ⟨y0, e0⟩ := some_at hx (i := 0) (by decide)
  obtain ⟨y1, e1⟩ := some_at hx (i := 1) (by decide)
  obtain ⟨y2, e2⟩ := some_at hx (i := 2) (by decide)
  obtain ⟨y3, e3⟩ := some_at hx (i := 3) (by decide)
  obtain ⟨c0, c1, c2, c3, hcs⟩ := lenx4 hl
  rw [hcs] at hf
  obtain ⟨a0, h0⟩ := int_of ((hf 0 (by decide)).trans e0)
  obtain ⟨a1, h1⟩ := int_of ((hf 1 (by decide)).trans e1)
  obtain ⟨a2, h2⟩ := int_of ((hf 2 (by decide)).trans e2)
  obtain ⟨a3, h3⟩ := int_of ((hf 3 (by decide)).trans e3)
  simp [c1_int] at h0 h1 h2 h3
  refine ⟨a0, a1, a2, a3, ?_⟩
  congr 1
  apply Array.toList_inj.1
  rw [hcs]
  simp [h0, h1, h2, h3]
end

end Go.Proofs.YtmcmbicapdcfmaaGreat
namespace Go.Proofs.YtmcmbicapdcfmaaGreat.RowLoanAttained
open Go.ChangeShapes Go.WideShapes Go.ChangeAt Go.RowKit
open Go.Proofs.YtmcmbicapdcfmaaGreat

set_option maxRecDepth 100000 in
theorem lifted (os : Os) (started : os.Started) (H : Type) (enc : TypeId × Value → H) :
    ReturnsInHanded {} Tryz.checked os 4 .any (Rows.loanAttainedSpec.pre6 enc Tryz.prog Tryz.f4 Rows.loanAttainedRow.domain false) (Rows.loanAttainedSpec.post enc Tryz.prog Tryz.f4 false true false false) := by
  refine returnsInHanded_of_change (C := Tryz.checked) own started (by kernel_rfl) Tryz.func4
    (ChangeSpec.witness6 (enc := enc) (C := Tryz.checked) false ⟨#[], #[.agg #[.slice none 0 0, .slice none 0 0, .slice none 0 0], .agg #[.int .i64 0, .int .i64 0, .int .i64 0, .int .i64 0]], []⟩ 8 (by kernel_rfl) (by kernel_rfl) (by kernel_rfl) (by kernel_rfl)) ?_
  intro W base args ds gs before hval0 hW hcnd _
  have hval : ∀ (j : Nat) t v, Tryz.f4.params[j]? = some t → args[j]? = some v → Value.okWide Tryz.prog W .any base t v := hval0
  have hW' := hW
  obtain ⟨p, q, hA0, hV, rfl, hfz, hnd⟩ := hW
  have hA : DataW.TrodAll enc Tryz.prog W 0 (fun _ => true) true Tryz.f4.params.toList args.toList ds p := hA0
  rw [Tryz.params4] at hA hval
  obtain ⟨v0, vs0, d0, ds0, p0, q0, hargs, rfl, rfl, h0, r0⟩ := trodAll_cons hA
  obtain ⟨v1, vs1, d1, ds1, p1, q1, rfl, rfl, rfl, h1, r1⟩ := trodAll_cons r0
  obtain ⟨rfl, rfl, rfl⟩ := trodAll_nil r1
  obtain rfl : args = #[v0, v1] := by cases args; simp_all
  obtain ⟨rfl, rfl⟩ := trodVars_none hV
  have k0 := h0
  have lt0 : ∀ x ∈ p0, x.block < W.heap.size := by obtain ⟨m, hm⟩ := k0; exact DataW.trod_lt m _ _ _ hm
  obtain ⟨y0, l0, rfl, f0, w0⟩ := raw_of (hval 0 25 v0 rfl rfl) h0
  have k1 := h1
  have lt1 : ∀ x ∈ p1, x.block < W.heap.size := by obtain ⟨m, hm⟩ := k1; exact DataW.trod_lt m _ _ _ hm
  obtain ⟨x10, x11, x12, x13, rfl⟩ := four_of (hval 1 56 v1 rfl rfl) h1
  clear hA0 hval0
  refine (w_LoanAttained y0 l0 x10 x11 x12 x13 W f0 w0).mono fun e W' ⟨he, bel⟩ => ?_
  subst he
  exact ⟨_, rfl, _, _, _, [], _, [], hW', trodAll_mk1 (shut_bool Tryz.underlying4 _), (trodAll_cons_mk (Below.trod laidOut (by kernel_rfl) (of_decide_eq_true (by kernel_rfl)) k0 bel lt0) (trodAll_cons_mk (Below.trod laidOut (by kernel_rfl) (of_decide_eq_true (by kernel_rfl)) k1 bel lt1) trodAll_mk0)), rfl, bel.frame _, fun h => by cases h⟩

theorem over : Rows.loanAttainedRow.holds Tryz.pinned (OpenSpec.ofChange Rows.loanAttainedSpec) :=
  OpenClaim.holds_of_wide 4 Tryz.f4 rfl rfl rfl rfl rfl rfl rfl ⟨rfl, rfl, rfl, rfl, rfl⟩ rfl rfl rfl rfl rfl (by kernel_rfl) Tryz.func4 (by kernel_rfl)
    (of_decide_eq_true (by kernel_rfl)) (by unfold Func.isWrapper; first | (rw [if_pos (by decide +kernel)]; kernel_rfl) | (rw [if_neg (by decide +kernel)]; exact ⟨rfl, rfl⟩))
    (fun os started H enc _ => lifted os started H enc)

theorem proved : Rows.LoanAttainedSaid := over
end Go.Proofs.YtmcmbicapdcfmaaGreat.RowLoanAttained

namespace Go.Proofs.YtmcmbicapdcfmaaGreat
theorem loanAttained_holds : Rows.LoanAttainedSaid := RowLoanAttained.proved
end Go.Proofs.YtmcmbicapdcfmaaGreat
