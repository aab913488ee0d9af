/- Layer 2 of the texts that LoanMoves takes: Mapq. -/
import Derived.Test.YtmcmbicapdcfmaaGreatMalq
import Derived.Test.YtmcmbicapdcfmaaGreatMaoq
set_option linter.unusedVariables false
set_option linter.unusedSimpArgs false
set_option maxHeartbeats 16000000
namespace Go.Proofs.YtmcmbicapdcfmaaGreat
open Go.RowKit Go.Shelf Go.Maps
attribute [local go_sem] Oper.semAt_some
structure Rv where
 r:Rcp
 A:Option Addr
 (n c:Nat)
def QV (w:World) (B b o:Nat) (x:Rv):Prop :=
 (w.cell? ⟨b,o,none⟩=some (.int .i64 x.r.src)∧w.cell? ⟨b,o+1,none⟩=some (.int .i64 x.r.bor)∧w.cell? ⟨b,o+2,none⟩=some (.int .i64 x.r.pap)∧w.cell? ⟨b,o+3,none⟩=some (.slice x.A x.n x.c)∧w.cell? ⟨b,o+4,none⟩=some (.int .i64 x.r.day)∧w.cell? ⟨b,o+5,none⟩=some (.int .i64 x.r.kn)∧w.cell? ⟨b,o+6,none⟩=some (.int .i64 x.r.un)) ∧
 (Is w B x.A x.n x.r.lv∧x.n≤x.c∧x.c≤maxLen)
theorem abV:Abides QV:=⟨fun w w' B b o x h hb hk=>by
 obtain ⟨⟨h0,h1,h2,h3,h4,h5,h6⟩,hi,hc⟩:=h
 exact ⟨⟨(hk _ _ hb).trans h0,(hk _ _ hb).trans h1,(hk _ _ hb).trans h2,(hk _ _ hb).trans h3,(hk _ _ hb).trans h4,(hk _ _ hb).trans h5,(hk _ _ hb).trans h6⟩,Rd.keep hi hk,hc⟩,fun _ _ _ _ _ _ h hB=>⟨h.1,Is.more h.2.1 hB,h.2.2⟩⟩
theorem rvs_of {w:World} {B n:Nat} {A:Option Addr} {R:List Rcp} (h:Rcs w B A n R):∃ xs:List Rv,xs.map Rv.r=R∧Sq QV 7 w B A n xs:=by
 by_cases h0:0<n
 ·obtain ⟨b,o,e,hb,hc⟩:=h.2 h0
  have hex:∀ k:Fin R.length,∃ v:Rv,v.r=R[k]∧QV w B b (o+k*7) v:=fun k=>by
   obtain ⟨A1,n1,c1,hq⟩:=hc k R[k] (List.getElem?_eq_getElem k.2)
   exact ⟨⟨R[k],A1,n1,c1⟩,rfl,hq⟩
  refine ⟨List.ofFn fun k=>Classical.choose (hex k),?_,by rw [List.length_ofFn];exact h.1,fun _=>⟨b,o,e,hb,fun k x hx=>?_⟩⟩
  ·apply List.ext_getElem
   ·simp
   ·intro i h1 h2
    rw [List.getElem_map,List.getElem_ofFn]
    exact (Classical.choose_spec (hex ⟨i,h2⟩)).1
  ·rw [List.getElem?_ofFn] at hx
   split at hx
   ·rename_i hk
    cases hx
    exact (Classical.choose_spec (hex ⟨k,hk⟩)).2
   ·cases hx
 ·have hn:n=0:=by omega
  subst hn
  have hR:R=[]:=List.eq_nil_of_length_eq_zero h.1
  subst hR
  exact ⟨[],rfl,rfl,fun h=>absurd h (by omega)⟩
theorem Rcs.of_rvs {w:World} {B n:Nat} {A:Option Addr} {xs:List Rv} (h:Sq QV 7 w B A n xs):Rcs w B A n (xs.map Rv.r) :=
 ⟨by rw [List.length_map];exact h.1,fun h0=>by
   obtain ⟨b,o,e,hb,hc⟩:=h.2 h0
   refine ⟨b,o,e,hb,fun k x hx=>?_⟩
   rw [List.getElem?_map] at hx
   obtain ⟨v,hv,rfl⟩:=Option.map_eq_some_iff.1 hx
   exact ⟨v.A,v.n,v.c,hc k v hv⟩⟩
def isOfB (pap leaf:Int) (r:Rcp):Bool:=decide (r.pap=pap) && decide (leaf∈r.lv)
def ofL (xs:List Rv) (pap leaf:Int):List Rv:=xs.filter fun v=>isOfB pap leaf v.r
abbrev YR (xs:List Rv) (pap leaf:Int):={ x:Rv // x∈ofL xs pap leaf }
abbrev rvV (v:Rv):Value:=.agg #[.int .i64 v.r.src,.int .i64 v.r.bor,.int .i64 v.r.pap,.slice v.A v.n v.c,.int .i64 v.r.day,.int .i64 v.r.kn,.int .i64 v.r.un]
def encR {xs:List Rv} {pap leaf:Int} (x:YR xs pap leaf):Array Value:=#[rvV x.1]
theorem ofL_in {xs:List Rv} {pap leaf:Int} {k:Nat} {v:Rv} (hv:xs[k]?=some v) (h:isOfB pap leaf v.r=true):ofL (xs.take (k+1)) pap leaf=ofL (xs.take k) pap leaf ++ [v]:=by
 unfold ofL;rw [take_snoc_some hv,List.filter_append];simp [h]
theorem ofL_out {xs:List Rv} {pap leaf:Int} {k:Nat} {v:Rv} (hv:xs[k]?=some v) (h:isOfB pap leaf v.r=false):ofL (xs.take (k+1)) pap leaf=ofL (xs.take k) pap leaf:=by
 unfold ofL;rw [take_snoc_some hv,List.filter_append];simp [h]
theorem ofL_pre (xs:List Rv) (pap leaf:Int) (k:Nat):ofL (xs.take k) pap leaf <+: ofL xs pap leaf:=(List.take_prefix k xs).filter _
theorem p_of (a:Acc) (pap leaf:Int) (w:World) :
 Calls Tryz.prog 121 #[accV a,.agg #[.int .i64 pap,.int .i64 leaf]] w fun e w'=>e=.returned (.func (.func 155) #[] #[.pointer (some ⟨w.heap.size,0,none⟩),.pointer (some ⟨w.heap.size+1,0,none⟩)]) ∧
  w'=(w.alloc (.cells #[.slice a.x.pA a.x.pn a.x.pc,.slice a.x.rA a.x.rn a.x.rc,.slice a.x.tA a.x.tn a.x.tc,.slice a.x.sA a.x.sn a.x.sc,.int .i64 a.kn,.slice a.RA a.Rn a.Rc,.slice a.SA a.Sn a.Sc,.map (some a.bm),.slice a.TA a.Tn a.Tc,.slice a.PA a.Pn a.Pc] 115)).alloc (.cells #[.int .i64 pap,.int .i64 leaf] 48):=by
 go_enter Tryz.func121,Tryz.ntmps121
 go_wp2
 go_ret
 exact ⟨rfl,rfl⟩
set_option maxRecDepth 100000 in
theorem of_in (n:Nat) (hn:1≤n) (l ba bf B:Nat) (P:Nat→Prop) (xs:List Rv) (pap leaf:Int) (RA:Option Addr) (Rn Rc:Nat) (J Jx:List (YR xs pap leaf)→World→Prop)
 (hN:Rn≤1000000) (hN1:∀ v∈xs,v.n≤1000000) (W:World) (hJ:AbidesFrom W.heap.size J) (hJx:AbidesFrom W.heap.size Jx)
 (hY:∀ pre x W1,J pre W1→pre.length<(ofL xs pap leaf).length→YieldAt Fence.wide (n - 1) Tryz.prog l (encR x) W1 fun e W' =>
   (e=.returned (.bool true)∧J (pre ++ [x]) W'∧KeepP P W1 W')∨(e=.returned (.bool false)∧Jx (pre ++ [x]) W'))
 (hPl:∀ k,k<B→P k) (hPa:P ba) (hPf:P bf) (hPw:∀ k,P k→k<W.heap.size) (hB:B≤W.heap.size)
 (c0:W.cell? ⟨ba,5,none⟩=some (.slice RA Rn Rc)) (c1:W.cell? ⟨bf,0,none⟩=some (.int .i64 pap)) (c2:W.cell? ⟨bf,1,none⟩=some (.int .i64 leaf))
 (hR:Sq QV 7 W B RA Rn xs) (h0:J [] W) :
 CallsIn Fence.wide n Tryz.prog 155 #[.func (.yield l) #[] #[],.pointer (some ⟨ba,0,none⟩),.pointer (some ⟨bf,0,none⟩)] W fun e W'=>(∃ v,e=.returned v) ∧
  ((∃ ys,ys.map (·.1)=ofL xs pap leaf∧J ys W')∨(∃ pre,pre.map (·.1) <+: ofL xs pap leaf∧Jx pre W')):=by
 have hlen:xs.length=Rn:=hR.len
 refine callsIn_of_wp Tryz.func155 rfl trivial ?_ rfl
 simp only [Tryz.ntmps155,List.size_toArray,List.length_cons,List.length_nil,Nat.reduceAdd,Nat.reduceSub,Array.replicate_succ,Array.replicate_zero,List.push_toArray,List.append_toArray,List.nil_append,List.cons_append]
 have HR0:=hd_ hR
 have HL:=hd_ hlen
 clear hR hlen
 gi_wp2
 gi_loopw [9] (fun i wr=>∃ k:Nat,k≤Rn∧i=.int .i64 k∧KeepP P W wr∧∃ pre,pre.map (·.1)=ofL (xs.take k) pap leaf∧J pre wr) (fun i _=>Rn - (intOf i).toNat)
 case atStart=>exact ⟨0,by omega,rfl,KeepP.refl _ _,[],rfl,h0⟩
 case round =>
  obtain ⟨k,hk,rfl,hKp,pre,hpre,hJs⟩:=hrel
  have e1:=(hKp.cell hPf 0).trans c1
  have e2:=(hKp.cell hPf 1).trans c2
  have hsz:W.heap.size≤wr.heap.size:=hKp.size
  have HP:=hd_ hpre
  clear hpre
  have hbf':bf<wr.heap.size:=Nat.lt_of_lt_of_le (hPw _ hPf) hsz
  have hPr:∀ k,P k→k<wr.heap.size:=fun k hk=>Nat.lt_of_lt_of_le (hPw _ hk) hsz
  by_cases hlt:k<Rn
  ·have hRw:Sq QV 7 wr B RA Rn xs:=HR0.out.keep abV fun b o hb=>hKp.cell (hPl _ hb) o
   obtain ⟨b,o,x,rfl,hb,hx,⟨h0,h1,h2,h3,h4,h5,h6⟩,hi,hc,hm⟩:=hRw.at_ hlt
   have hbr:b<wr.heap.size:=by omega
   have HX:=hd_ hx
   have hxn:=hN1 x (List.mem_of_getElem? hx)
   clear hx
   have HI:Hid (∀ W',Below wr.heap.size wr W'→Is W' W'.heap.size x.A x.n x.r.lv):=by
    show ∀ _,_
    exact fun W' hb'=>(Is.more hi (by omega)).now hb'
   clear hi hRw
   have hbx:Below wr.heap.size wr (wr.alloc (.cells #[.int .i64 x.r.src,.int .i64 x.r.bor,.int .i64 x.r.pap,.slice x.A x.n x.c,.int .i64 x.r.day,.int .i64 x.r.kn,.int .i64 x.r.un] 79)):=by exact bel_
   have HJ2:Hid (J pre (wr.alloc (.cells #[.int .i64 x.r.src,.int .i64 x.r.bor,.int .i64 x.r.pap,.slice x.A x.n x.c,.int .i64 x.r.day,.int .i64 x.r.kn,.int .i64 x.r.un] 79))):=hJ _ _ _ none hJs (grown_of_below hbx) (by simp)
   have HK2:=hd_ (hKp.trans (KeepP.of_below hbx hPr))
   clear hJs
   by_cases hp:x.r.pap=pap
   ·have hpd:(x.r.pap == pap)=true:=by simpa using hp
    cases hd:decide (leaf∈x.r.lv) with
    | false =>
      have HF:Hid (ofL (xs.take (k+1)) pap leaf=ofL (xs.take k) pap leaf):=by show _=_;exact ofL_out HX.out (by simp [isOfB,hd])
      have HD:=hd_ hd
      clear hd hp
      gi_wp2_with (refine ⟨trivial,?_⟩;gi_at_call 71;refine (callsIn_wide.2 (l_contains x.r.lv leaf false x.A x.n x.c _ hxn (HI.out _ hbx) HD.out)).mono ?_;rintro e w1 ⟨rfl,rfl⟩)
      refine ⟨fun _ h=>(by cases h),?_⟩
      gi_wp2
      exact ⟨⟨k+1,by omega,by go_num,HK2.out,pre,by rw [HF.out];exact HP.out,HJ2.out⟩,by simp [intOf];omega⟩
    | true =>
      have HF:Hid (ofL (xs.take (k+1)) pap leaf=ofL (xs.take k) pap leaf ++ [x]):=by show _=_;exact ofL_in HX.out (by simp [isOfB,hd,hp])
      have hmem:x∈ofL xs pap leaf:=List.mem_filter.2 ⟨List.mem_of_getElem? HX.out,by simp [isOfB,hd,hp]⟩
      have hpl:pre.length<(ofL xs pap leaf).length:=by
       have h1:pre.length=(ofL (xs.take k) pap leaf).length:=by rw [← HP.out,List.length_map]
       have h2:=(ofL_pre xs pap leaf (k+1)).length_le
       rw [HF.out,List.length_append] at h2
       simp at h2
       omega
      have HD:=hd_ hd
      clear hd hp
      obtain ⟨fn,tmps,assign,body,hy,hRy⟩:=hY pre ⟨x,hmem⟩ (wr.alloc (.cells #[.int .i64 x.r.src,.int .i64 x.r.bor,.int .i64 x.r.pap,.slice x.A x.n x.c,.int .i64 x.r.day,.int .i64 x.r.kn,.int .i64 x.r.un] 79)) HJ2.out hpl
      have HY:=hd_ hy
      clear hy
      gi_wp2_with (refine ⟨trivial,?_⟩;gi_at_call 71;refine (callsIn_wide.2 (l_contains x.r.lv leaf true x.A x.n x.c _ hxn (HI.out _ hbx) HD.out)).mono ?_;rintro e w1 ⟨rfl,rfl⟩)
      have hy:=HY.out
      simp only [encR] at hy
      rw [hy]
      simp only [Oper.uponIn]
      refine ⟨fun _=>hn,?_⟩
      refine hRy.mono ?_
      rintro e w3 (⟨rfl,hJ3,hk3⟩ | ⟨rfl,hJx3⟩)
      ·gi_wp2
       exact ⟨⟨k+1,by omega,by go_num,HK2.out.trans hk3,pre ++ [⟨x,hmem⟩],by rw [HF.out,List.map_append,HP.out];rfl,hJ3⟩,by simp [intOf];omega⟩
      ·gi_wp2
       refine bodyPost_ret (results_none rfl _ _ _) rfl ?_
       refine ⟨⟨_,rfl⟩,.inr ⟨pre ++ [⟨x,hmem⟩],?_,hJx3⟩⟩
       have h2:=ofL_pre xs pap leaf (k+1)
       rw [HF.out,← HP.out] at h2
       rw [List.map_append]
       exact h2
   ·have hpd:(x.r.pap == pap)=false:=by simpa using hp
    have HF:Hid (ofL (xs.take (k+1)) pap leaf=ofL (xs.take k) pap leaf):=by show _=_;exact ofL_out HX.out (by simp [isOfB,hp])
    clear hp
    gi_wp2
    refine ⟨trivial,?_⟩
    gi_wp2
    refine ⟨fun _ h=>(by cases h),?_⟩
    gi_wp2
    exact ⟨⟨k+1,by omega,by go_num,HK2.out,pre,by rw [HF.out];exact HP.out,HJ2.out⟩,by simp [intOf];omega⟩
  ·have hkn:Hid (k=Rn):=by show _=_;omega
   have e0:=(hKp.cell hPa 5).trans c0
   gi_wp2
   go_end0
   refine ⟨⟨_,rfl⟩,.inl ⟨pre,?_,hJs⟩⟩
   rw [HP.out,List.take_of_length_le (by rw [HL.out,hkn.out];exact lr_)]
theorem of_stops (n:Nat) (hn:1≤n) (ba bf B:Nat) (P:Nat→Prop) (xs:List Rv) (pap leaf:Int) (RA:Option Addr) (Rn Rc:Nat) (w:World)
 (hN:Rn≤1000000) (hN1:∀ v∈xs,v.n≤1000000) (hPl:∀ k,k<B→P k) (hPa:P ba) (hPf:P bf) (hPw:∀ k,P k→k<w.heap.size) (hB:B≤w.heap.size)
 (c0:w.cell? ⟨ba,5,none⟩=some (.slice RA Rn Rc)) (c1:w.cell? ⟨bf,0,none⟩=some (.int .i64 pap)) (c2:w.cell? ⟨bf,1,none⟩=some (.int .i64 leaf)) (hR:Sq QV 7 w B RA Rn xs) :
 SeqStopsK Fence.wide n Tryz.prog 155 #[.pointer (some ⟨ba,0,none⟩),.pointer (some ⟨bf,0,none⟩)] (encR (xs:=xs) (pap:=pap) (leaf:=leaf)) (KeepP P) (fun ys=>ys.map (·.1)=ofL xs pap leaf) (fun pre=>pre.map (·.1) <+: ofL xs pap leaf) (ofL xs pap leaf).length w:=fun l J Jx W hW hJ hJx hY h0 =>
 of_in n hn l ba bf B P xs pap leaf RA Rn Rc J Jx hN hN1 W hJ hJx hY hPl hPa hPf (fun k hk=>Nat.lt_of_lt_of_le (hPw k hk) hW.size) (Nat.le_trans hB hW.size)
  ((hW.cell (p:=⟨ba,5,none⟩) (hPw _ hPa)).trans c0) ((hW.cell (p:=⟨bf,0,none⟩) (hPw _ hPf)).trans c1) ((hW.cell (p:=⟨bf,1,none⟩) (hPw _ hPf)).trans c2) (hR.ext abV hW hB) h0
end Go.Proofs.YtmcmbicapdcfmaaGreat
