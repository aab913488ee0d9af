/- Layer 2 of the texts that LoanPlaces takes: Paqq. -/
import Derived.Test.YtoiompoapikkbaaGreatPapq
set_option linter.unusedVariables false
set_option linter.unusedSimpArgs false
set_option maxHeartbeats 16000000
namespace Go.Proofs.YtoiompoapikkbaaGreat
open Go.RowKit
theorem mem_take_succ {l:List Int} {k:Nat} {x n:Int} (h:l[k]?=some x):n∈l.take (k+1)↔n∈l.take k∨n=x:=by
 rw [take_snoc_some h,List.mem_append,List.mem_singleton]
theorem r_Has2 (l:List Int) (v:Int) (A:Option Addr) (n c:Nat) (w:World) (hn:n≤9223372036854775807) (hd:Is w w.heap.size A n l) :
 Calls Tryz.prog 65 #[.slice A n c,.int .i64 v] w fun e w'=>e=.returned (.bool (decide (v∈l)))∧Below w.heap.size w w':=by
 have hlen:=hd.len
 have HD:=hd_ hd
 have HL:=hd_ hlen
 clear hd hlen
 go_enter Tryz.func65,Tryz.ntmps65
 go_wp2
 go_loopw [5] (fun i wr=>∃ k:Nat,k≤n∧i=.int .i64 k∧v ∉ l.take k∧Below w.heap.size w wr) (fun i _=>n - (intOf i).toNat)
 case atStart=>exact ⟨0,by omega,rfl,by simp,Below.refl _ _⟩
 case round =>
  obtain ⟨k,hk,rfl,hno,hB⟩:=hrel
  have HNo:=hd_ hno
  clear hno
  by_cases hlt:k<n
  ·obtain ⟨b,o,x,rfl,hb,hx,hc0⟩:=(Is.ext HD.out hB lr_).at_ hlt
   have HX:=hd_ hx
   clear hx
   by_cases he:x=v
   ·go_wp2
    go_ret
    exact ⟨ret_bool (by rw [he] at HX;simp [List.mem_of_getElem? HX.out]),hB⟩
   ·go_wp2
    go_roundw
    case rel=>exact ⟨k+1,by omega,by go_num,by rw [mem_take_succ HX.out];exact fun h=>h.elim HNo.out fun e=>he e.symm,hB⟩
    case measure=>exact ms_
  ·have hkn:Hid (k=n):=by show _=_;omega
   go_wp2
   go_ret
   refine ⟨ret_bool ?_,hB⟩
   have h:=HNo.out
   rw [List.take_of_length_le (by rw [HL.out,hkn.out];exact lr_)] at h
   simp [h]
theorem r_apart2 (l:List Int) (A:Option Addr) (n c:Nat) (w:World) (hn:n≤1000000) (hd:Is w w.heap.size A n l) :
 Calls Tryz.prog 97 #[.slice A n c] w fun e w'=>e=.returned (.bool (decide l.Nodup))∧Below w.heap.size w w':=by
 have hlen:=hd.len
 have HD:=hd_ hd
 have HL:=hd_ hlen
 clear hd hlen
 go_enter Tryz.func97,Tryz.ntmps97
 go_wp2
 go_loopw [3] (fun i wr=>∃ k:Nat,k≤n∧i=.int .i64 k∧(l.take k).Nodup∧Below w.heap.size w wr) (fun i _=>n - (intOf i).toNat)
 case atStart=>exact ⟨0,by omega,rfl,by simp,Below.refl _ _⟩
 case round =>
  obtain ⟨k,hk,rfl,hno,hB⟩:=hrel
  have HNo:=hd_ hno
  clear hno
  by_cases hlt:k<n
  ·obtain ⟨b,o,x,rfl,hb,hx,hc0⟩:=(Is.ext HD.out hB lr_).at_ hlt
   have HX:=hd_ hx
   clear hx
   go_wp2
   go_loopw [4] (fun i wq=>∃ j:Nat,j≤k∧i=.int .i64 j∧x ∉ l.take j∧Below w.heap.size w wq) (fun i _=>k - (intOf i).toNat)
   case atStart=>exact ⟨0,by omega,rfl,by simp,hB⟩
   case round =>
    obtain ⟨j,hj,rfl,hni,hQ⟩:=hrel
    have HNi:=hd_ hni
    clear hni
    by_cases hjk:j<k
    ·obtain ⟨b',o',y,e',_,hy,hc1⟩:=(Is.ext HD.out hQ lr_).at_ (k:=j) (by omega)
     obtain ⟨rfl,rfl⟩:b=b'∧o=o':=by simpa using e'
     obtain ⟨b2,o2,x2,e2,_,hx2,hc2⟩:=(Is.ext HD.out hQ lr_).at_ (k:=k) hlt
     obtain ⟨rfl,rfl⟩:b=b2∧o=o2:=by simpa using e2
     obtain rfl:x2=x:=Option.some.inj (hx2.symm.trans HX.out)
     have HY:=hd_ hy
     clear hy e' e2 hx2
     have hs0:w.heap.size≤wr.heap.size:=hQ.size
     have hbr:b<wr.heap.size:=by omega
     by_cases hxy:x2=y
     ·go_wp2_with fail
      (refine rg_ ?_;(repeat (go_big_quiet_step (fail)));refine qn_ fun w1 hb1 hc1 hf1=>?_)
      go_wp2_with fail
      go_ret
      refine ⟨ret_bool ?_,bt_ hQ hb1⟩
      have h1:¬ l.Nodup:=fun h=>by
       have h3:=(List.getElem?_inj (by rw [HL.out];omega) h (i:=j) (j:=k)).1 (by rw [HY.out,HX.out,hxy])
       omega
      simp [h1]
     ·go_wp2_with fail
      (refine rg_ ?_;(repeat (go_big_quiet_step (fail)));refine qn_ fun w1 hb1 hc1 hf1=>?_)
      go_wp2_with fail
      go_roundw
      case rel=>exact ⟨j+1,by omega,by go_num,by rw [mem_take_succ HY.out];exact fun h=>h.elim HNi.out hxy,bt_ hQ hb1⟩
      case measure=>exact ms_
    ·have hkj:Hid (j=k):=by show _=_;omega
     go_wp2
     go_roundw
     case rel =>
      refine ⟨k+1,by omega,by go_num,?_,hQ⟩
      rw [take_snoc_some HX.out,List.nodup_append]
      have h:=HNi.out
      rw [hkj.out] at h
      exact ⟨HNo.out,by simp,fun a ha b hb' e=>by rw [List.mem_singleton] at hb';exact h (by rw [← hb',← e];exact ha)⟩
     case measure=>exact ms_
  ·have hkn:Hid (k=n):=by show _=_;omega
   go_wp2
   go_ret
   refine ⟨ret_bool ?_,hB⟩
   have h:=HNo.out
   rw [List.take_of_length_le (by rw [HL.out,hkn.out];exact lr_)] at h
   simp [h]
theorem val_rise {l:List Int} {ok:Int→Bool} {most:Nat} (h:valB id ok most l=true):∀ (j:Nat) (h1:j+1<l.length),l[j]<l[j+1]:=fun j h1=>by
 rw [valB,Bool.and_eq_true] at h
 have h2:=List.all_eq_true.1 h.2 (j+1) (List.mem_range.2 h1)
 have e1:l[j+1]?=some l[j+1]:=List.getElem?_eq_getElem h1
 have e2:l[j]?=some (l[j]'(by omega)):=List.getElem?_eq_getElem (by omega)
 simp only [valAt,e1,e2,id,Bool.and_eq_true,decide_eq_true_eq] at h2
 exact h2.2
theorem rise_le {l:List Int} (h:∀ (j:Nat) (h1:j+1<l.length),l[j]<l[j+1]):∀ (d i:Nat) (hi:i+d<l.length),l[i]'(by omega)≤l[i+d]
 | 0,i,hi=>by simp
 | d+1,i,hi=>by
   have h1:=rise_le h d i (by omega)
   have h2:=h (i+d) (by omega)
   have e:i+(d+1)=i+d+1:=by omega
   simp only [e]
   omega
def Rcp.last (r:Rcp):Int:=r.lv.getD (r.lv.length - 1) 0
theorem fol_last {r:Rcp} (pp:List Ppr) (h:r.okB=true):(rcFol r).all (fun f=>folB pp f.1 f.2)=folB pp r.pap r.last:=by
 have h1:=h
 simp only [Rcp.okB,Bool.and_eq_true] at h1
 have hl:=h1.2.2.2.1
 rw [leavesB,Bool.and_eq_true,decide_eq_true_eq] at hl
 obtain ⟨h0,hv⟩:=hl
 have hr:=val_rise hv
 have ho:=val_all hv
 have hlast:r.last=r.lv[r.lv.length - 1]'(by omega):=by
  rw [Rcp.last,List.getD_eq_getElem?_getD,List.getElem?_eq_getElem (by omega)];rfl
 rw [rcFol,List.all_map,Bool.eq_iff_iff,List.all_eq_true]
 constructor
 ·intro ha
  have:=ha r.last (by rw [hlast];exact List.getElem_mem _)
  simpa using this
 ·intro hf y hy
  obtain ⟨i,hi,rfl⟩:=List.getElem_of_mem hy
  have h2:=rise_le hr (r.lv.length - 1 - i) i (by omega)
  have e:i+(r.lv.length - 1 - i)=r.lv.length - 1:=by omega
  simp only [e] at h2
  have h3:=ho _ (List.getElem_mem hi)
  simp only [folB,withinB,leafB,Function.comp,Bool.and_eq_true,decide_eq_true_eq] at hf h3 ⊢
  rw [hlast] at hf
  omega
def rcOk (pp:List Ppr) (r:Rcp):Bool:=r.okB && folB pp r.pap r.last
def sgOk (pp:List Ppr) (s:Sgt):Bool:=s.okB && folB pp s.pap s.leaf
theorem val_ext {α:Type} {num:α→Int} {ok ok':α→Bool} {l:List α} (h:∀ x∈l,ok x=ok' x) (most:Nat):valB num ok most l=valB num ok' most l:=by
 have h1:∀ k,valAt num ok l k=valAt num ok' l k:=fun k=>by
  cases k with
  | zero =>
    cases h0:l[0]? with
    | none=>simp [valAt,h0]
    | some x=>simp [valAt,h0,h x (List.mem_of_getElem? h0)]
  | succ j =>
    cases h0:l[j+1]? with
    | none=>simp [valAt,h0]
    | some x =>
      cases h2:l[j]? with
      | none=>simp [valAt,h0,h2]
      | some y=>simp [valAt,h0,h2,h x (List.mem_of_getElem? h0)]
 rw [valB,valB,funext h1]
theorem val_and {α:Type} {num:α→Int} {ok q:α→Bool} {l:List α} (most:Nat):valB num (fun x=>ok x && q x) most l=(valB num ok most l && l.all q):=by
 by_cases hq:l.all q=true
 ·rw [hq,Bool.and_true]
  exact val_ext (fun x hx=>by simp [List.all_eq_true.1 hq x hx]) most
 ·have hf:l.all q=false:=by simpa using hq
  rw [hf,Bool.and_false,Bool.eq_false_iff]
  intro h
  refine hq (List.all_eq_true.2 fun x hx=>?_)
  have:=val_all h x hx
  simp only [Bool.and_eq_true] at this
  exact this.2
theorem ledB_ref (l:Led):ledB l=(valB Ppr.id Ppr.okB 12 l.pp && (valB Rcp.src (rcOk l.pp) 60 l.rc && (valB Rtn.src Rtn.okB 60 l.rt && (valB Sgt.src (sgOk l.pp) 60 l.sg && decide (srcL l).Nodup)))):=by
 have e1:valB Rcp.src (rcOk l.pp) 60 l.rc=(valB Rcp.src Rcp.okB 60 l.rc && l.rc.all fun r=>folB l.pp r.pap r.last):=val_and 60
 have e2:valB Sgt.src (sgOk l.pp) 60 l.sg=(valB Sgt.src Sgt.okB 60 l.sg && l.sg.all fun s=>folB l.pp s.pap s.leaf):=val_and 60
 have e3:folsB l.pp (namL l)=((l.rc.all fun r=>(rcFol r).all fun f=>folB l.pp f.1 f.2) && l.sg.all fun s=>folB l.pp s.pap s.leaf):=by
  rw [folsB,namL,List.all_append,List.all_flatMap,List.all_map]
  rfl
 rw [ledB,e1,e2,e3]
 by_cases hr:valB Rcp.src Rcp.okB 60 l.rc=true
 ·have h4:(l.rc.all fun r=>(rcFol r).all fun f=>folB l.pp f.1 f.2)=l.rc.all fun r=>folB l.pp r.pap r.last:=by
   rw [Bool.eq_iff_iff,List.all_eq_true,List.all_eq_true]
   exact ⟨fun h r hr'=>by rw [← fol_last l.pp (val_all hr r hr')];exact h r hr',fun h r hr'=>by rw [fol_last l.pp (val_all hr r hr')];exact h r hr'⟩
  rw [h4]
  cases valB Ppr.id Ppr.okB 12 l.pp <;> cases valB Rcp.src Rcp.okB 60 l.rc <;> cases valB Rtn.src Rtn.okB 60 l.rt <;> cases valB Sgt.src Sgt.okB 60 l.sg <;> cases decide (srcL l).Nodup <;> simp
 ·have hf:valB Rcp.src Rcp.okB 60 l.rc=false:=by simpa using hr
  rw [hf]
  simp
end Go.Proofs.YtoiompoapikkbaaGreat
namespace Go.Proofs.YtoiompoapikkbaaGreat
open Go.RowKit Go.Shelf Go.Maps
attribute [local go_sem] Oper.semAt_some
theorem BoxA.set {W:World} {B:Nat} {t:TypeId} {cs:Array Value} (h:BoxA W B t cs) (j:Nat) (u:Value):BoxA (W.setCell ⟨B,j,none⟩ u) B t (cs.setIfInBounds j u):=heap_setCell_same _ _ _ _ _ _ h
theorem BoxA.other {W:World} {B:Nat} {t:TypeId} {cs:Array Value} (h:BoxA W B t cs) {p:Addr} (hp:B≠p.block) (u:Value):BoxA (W.setCell p u) B t cs:=(Below.heap_setCell _ _ _ _ hp).trans h
def getN (M:List ((Int × Int) × Nat)) (k:Int × Int):Option Nat:=match M with
 | []=>none
 | x :: l=>if x.1=k then some x.2 else getN l k
def putN (M:List ((Int × Int) × Nat)) (k:Int × Int) (v:Nat):List ((Int × Int) × Nat):=match M with
 | []=>[(k,v)]
 | x :: l=>if x.1=k then (k,v) :: l else x :: putN l k v
def encM (M:List ((Int × Int) × Nat)):List ((Int × Int) × Value):=M.map fun x=>(x.1,.int .i64 x.2)
theorem getG_enc (M:List ((Int × Int) × Nat)) (k:Int × Int):getG (encM M) k=(getN M k).map fun i:Nat=>.int .i64 i:=by
 induction M with
 | nil=>rfl
 | cons x l ih =>
   by_cases h:x.1=k
   ·simp [encM,getG,getN,h]
   ·simp only [encM,List.map_cons,getG,getN,h,if_false]
    exact ih
theorem putG_enc (M:List ((Int × Int) × Nat)) (k:Int × Int) (v:Nat):putG (encM M) k (.int .i64 v)=encM (putN M k v):=by
 induction M with
 | nil=>rfl
 | cons x l ih =>
   by_cases h:x.1=k
   ·simp [encM,putG,putN,h]
   ·simp only [encM,List.map_cons,putG,putN,h,if_false]
    exact congrArg _ ih
theorem getN_put (M:List ((Int × Int) × Nat)) (k j:Int × Int) (v:Nat):getN (putN M k v) j=if j=k then some v else getN M j:=by
 induction M with
 | nil =>
   by_cases h:j=k
   ·simp [putN,getN,h]
   ·have h2:¬ k=j:=fun e=>h e.symm
    simp [putN,getN,h,h2]
 | cons x l ih =>
   by_cases hx:x.1=k
   ·by_cases h:j=k
    ·subst h;simp [putN,getN,hx]
    ·have h2:¬ k=j:=fun e=>h e.symm
     have h3:¬ x.1=j:=fun e=>h (e.symm.trans hx)
     simp [putN,getN,hx,h,h2]
   ·simp only [putN,hx,if_false,getN,ih]
    by_cases h:j=k
    ·subst h;simp [hx]
    ·simp [h]
def backI (M:List ((Int × Int) × Nat)) (src leaf:Int):Int:=match getN M (src,leaf) with
 | some i=>i
 | none=>-1
def stayStep (M:List ((Int × Int) × Nat)) (leaf day:Int) (s:Int × Int × Int) (r:Rcp):Int × Int × Int :=
 if day<r.day∨r.day≤s.2.2 then s else (r.bor,backI M r.src leaf,r.day)
def stayL (M:List ((Int × Int) × Nat)) (leaf day:Int) (rs:List Rcp):Int × Int × Int:=rs.foldl (stayStep M leaf day) (0,-1,-1)
theorem stayL_snoc (M:List ((Int × Int) × Nat)) (leaf day:Int) (rs:List Rcp) (r:Rcp):stayL M leaf day (rs ++ [r])=stayStep M leaf day (stayL M leaf day rs) r:=by simp [stayL]
def stayF (M:List ((Int × Int) × Nat)) (R:List Rcp) (pap leaf day:Int):Int × Int × Int:=stayL M leaf day (R.filter (isOfB pap leaf))
theorem ofL_map (xs:List Rv) (pap leaf:Int):(ofL xs pap leaf).map Rv.r=(xs.map Rv.r).filter (isOfB pap leaf):=by
 rw [ofL,List.filter_map];rfl
def staySI {xs:List Rv} {pap leaf:Int} (M:List ((Int × Int) × Nat)) (day:Int) (pre:List (YR xs pap leaf)):Int × Int × Int:=stayL M leaf day (pre.map (·.1.r))
theorem staySI_snoc {xs:List Rv} {pap leaf:Int} (M:List ((Int × Int) × Nat)) (day:Int) (pre:List (YR xs pap leaf)) (x:YR xs pap leaf):staySI M day (pre ++ [x])=stayStep M leaf day (staySI M day pre) x.1.r:=by
 rw [staySI,List.map_append,List.map_cons,List.map_nil,stayL_snoc];rfl
set_option maxRecDepth 100000 in
theorem p_stay (M:List ((Int × Int) × Nat)) (R:List Rcp) (a:Acc) (pap leaf day:Int) (w:World) (hN:a.Rn≤1000000) (hN1:∀ r∈R,r.lv.length≤1000000∧(Lit.int .i64 r.src).wf=true) (hwl:(Lit.int .i64 leaf).wf=true)
 (hm:MapS w a.bm (encM M)) (hr:Rcs w w.heap.size a.RA a.Rn R) :
 Calls Tryz.prog 134 #[accV a,.agg #[.int .i64 pap,.int .i64 leaf],.int .i64 day] w fun e w'=>e=.returned (.agg #[.int .i64 (stayF M R pap leaf day).1,.int .i64 (stayF M R pap leaf day).2.1])∧Below w.heap.size w w':=by
 obtain ⟨xs,rfl,hx⟩:=rvs_of hr
 have hl1:∀ v∈xs,v.n≤1000000:=fun v hv=>by
  obtain ⟨k,hk⟩:=List.getElem?_of_mem hv
  obtain ⟨b,o,y,_,_,hy,hq⟩:=hx.at_ (k:=k) (by rw [← hx.len];exact (List.getElem?_eq_some_iff.1 hk).1)
  obtain rfl:v=y:=Option.some.inj (hk.symm.trans hy)
  rw [← hq.2.1.len]
  exact (hN1 v.r (List.mem_map.2 ⟨v,hv,rfl⟩)).1
 have hsw:∀ v∈xs,(Lit.int .i64 v.r.src).wf=true:=fun v hv=>(hN1 v.r (List.mem_map.2 ⟨v,hv,rfl⟩)).2
 rw [stayF,← ofL_map]
 obtain ⟨⟨pA,pn,pc,rA,rn,rc,tA,tn,tc,sA,sn,sc⟩,kn,RA,Rn,Rc,SA,Sn,Sc,bm,TA,Tn,Tc,PA,Pn,Pc⟩:=a
 show Calls _ _ #[.agg #[.slice pA pn pc,.slice rA rn rc,.slice tA tn tc,.slice sA sn sc,.int .i64 kn,.slice RA Rn Rc,.slice SA Sn Sc,.map (some bm),.slice TA Tn Tc,.slice PA Pn Pc],_,_] _ _
 have hN':Rn≤1000000:=hN
 have HM:Hid (MapS w bm (encM M)):=by show MapG _ _ _ _ _;exact hm
 have HX:Hid (Sq QV 7 w w.heap.size RA Rn xs):=by show Sq _ _ _ _ _ _ _;exact hx
 have HS:=hd_ hsw
 have HL1:=hd_ hl1
 clear hm hr hx hN hN1 hl1 hsw
 refine (callsIn_wide (n:=9)).1 ?_
 have h1:1≤9:=by omega
 (refine callsIn_of_wp_marks Tryz.func134 rfl trivial ?_ rfl;simp only [Tryz.ntmps134,List.size_toArray,List.length_cons,List.length_nil,Nat.reduceAdd,Nat.reduceSub,Array.replicate_succ,Array.replicate_zero,List.push_toArray,List.append_toArray,List.nil_append,List.cons_append])
 gi_wp2_with (refine ⟨trivial,?_⟩;gi_at_call 175;refine (callsIn_wide.2 (p_of ⟨⟨pA,pn,pc,rA,rn,rc,tA,tn,tc,sA,sn,sc⟩,kn,RA,Rn,Rc,SA,Sn,Sc,bm,TA,Tn,Tc,PA,Pn,Pc⟩ pap leaf _)).mono ?_;rintro e w1 ⟨rfl,hw1⟩)
 refine wpIn_named2 fun a0 W0 ha0 hW0=>?_
 have hsz:W0.heap.size=w.heap.size+8:=by rw [← hW0];simp
 have hB0:Below w.heap.size w W0:=by rw [← hW0];exact bel_
 have b0:BoxA W0 w.heap.size 119 #[.slice pA pn pc,.slice rA rn rc,.slice tA tn tc,.slice sA sn sc,.int .i64 kn,.slice RA Rn Rc,.slice SA Sn Sc,.map (some bm),.slice TA Tn Tc,.slice PA Pn Pc]:=by (rw [← hW0];simp only [boxed_iff,boxa_iff,alloc_get,drew_heap,World.size_alloc];(repeat (first | rw [if_pos trivial] | rw [if_pos (by omega)] | rw [if_neg (by omega)])))
 have b1:BoxA W0 (w.heap.size+1) 60 #[.int .i64 pap,.int .i64 leaf]:=by (rw [← hW0];simp only [boxed_iff,boxa_iff,alloc_get,drew_heap,World.size_alloc];(repeat (first | rw [if_pos trivial] | rw [if_pos (by omega)] | rw [if_neg (by omega)])))
 have b2:BoxA W0 (w.heap.size+1+1) 3 #[.int .i64 day]:=by (rw [← hW0];simp only [boxed_iff,boxa_iff,alloc_get,drew_heap,World.size_alloc];(repeat (first | rw [if_pos trivial] | rw [if_pos (by omega)] | rw [if_neg (by omega)])))
 have b4:BoxA W0 (w.heap.size+1+1+1+1) 154 #[.int .i64 0,.int .i64 (-1)]:=by (rw [← hW0];simp only [boxed_iff,boxa_iff,alloc_get,drew_heap,World.size_alloc];(repeat (first | rw [if_pos trivial] | rw [if_pos (by omega)] | rw [if_neg (by omega)])))
 have b5:BoxA W0 (w.heap.size+1+1+1+1+1) 3 #[.int .i64 (-1)]:=by (rw [← hW0];simp only [boxed_iff,boxa_iff,alloc_get,drew_heap,World.size_alloc];(repeat (first | rw [if_pos trivial] | rw [if_pos (by omega)] | rw [if_neg (by omega)])))
 have b3:BoxA W0 (w.heap.size+1+1+1) 154 #[.int .i64 0,.int .i64 0]:=by (rw [← hW0];simp only [boxed_iff,boxa_iff,alloc_get,drew_heap,World.size_alloc];(repeat (first | rw [if_pos trivial] | rw [if_pos (by omega)] | rw [if_neg (by omega)])))
 have b6:BoxA W0 (w.heap.size+1+1+1+1+1+1) 119 #[.slice pA pn pc,.slice rA rn rc,.slice tA tn tc,.slice sA sn sc,.int .i64 kn,.slice RA Rn Rc,.slice SA Sn Sc,.map (some bm),.slice TA Tn Tc,.slice PA Pn Pc]:=by (rw [← hW0];simp only [boxed_iff,boxa_iff,alloc_get,drew_heap,World.size_alloc];(repeat (first | rw [if_pos trivial] | rw [if_pos (by omega)] | rw [if_neg (by omega)])))
 have b7:BoxA W0 (w.heap.size+1+1+1+1+1+1+1) 60 #[.int .i64 pap,.int .i64 leaf]:=by (rw [← hW0];simp only [boxed_iff,boxa_iff,alloc_get,drew_heap,World.size_alloc];(repeat (first | rw [if_pos trivial] | rw [if_pos (by omega)] | rw [if_neg (by omega)])))
 clear hW0
 have hPw:∀ k,(fun k=>k<w.heap.size∨k=w.heap.size∨k=(w.heap.size+1)∨k=(w.heap.size+1+1)∨k=(w.heap.size+1+1+1+1+1+1)∨k=(w.heap.size+1+1+1+1+1+1+1)) k→k<W0.heap.size:=fun k hk=>by simp only at hk;omega
 refine wpIn_rangeFunc_ownH rfl h1 (gf:=194) (lb:=#[.pointer (some ⟨(w.heap.size+1+1+1+1+1+1),0,none⟩),.pointer (some ⟨(w.heap.size+1+1+1+1+1+1+1),0,none⟩)]) (by subst ha0;rfl) trivial (enters_of Tryz.func194 (by kernel_rfl) rfl)
  (of_stops 8 (by omega) (w.heap.size+1+1+1+1+1+1) (w.heap.size+1+1+1+1+1+1+1) w.heap.size (fun k=>k<w.heap.size∨k=w.heap.size∨k=(w.heap.size+1)∨k=(w.heap.size+1+1)∨k=(w.heap.size+1+1+1+1+1+1)∨k=(w.heap.size+1+1+1+1+1+1+1)) xs pap leaf RA Rn Rc W0 hN' HL1.out (fun k hk=>.inl hk) (.inr (.inr (.inr (.inr (.inl rfl))))) (.inr (.inr (.inr (.inr (.inr rfl))))) hPw (by omega) (b6.cell 5) (b7.cell 0) (b7.cell 1) (HX.out.ext abV hB0 lr_))
  keepP_t (keepP_b hPw) (Below.refl _ _) (fun _=>rfl)
  (fun pre W=>(BoxA W (w.heap.size+1+1+1+1) 154 #[.int .i64 (staySI M day pre).1,.int .i64 (staySI M day pre).2.1]∧BoxA W (w.heap.size+1+1+1+1+1) 3 #[.int .i64 (staySI M day pre).2.2]∧BoxA W (w.heap.size+1+1+1) 154 #[.int .i64 0,.int .i64 0])∧(KeepP (fun k=>k<w.heap.size∨k=w.heap.size∨k=(w.heap.size+1)∨k=(w.heap.size+1+1)∨k=(w.heap.size+1+1+1+1+1+1)∨k=(w.heap.size+1+1+1+1+1+1+1)) W0 W∧Below w.heap.size w W))
  (fun _ _ _=>False)
  (OwnFrom.and (OwnFrom.and (Own.from (boxa_own _ _ _) _) (OwnFrom.and (Own.from (boxa_own _ _ _) _) (Own.from (boxa_own _ _ _) _))) (OwnFrom.and (ownFrom_keepP W0 hPw hPw) (ownFrom_below lr_ (by omega))))
  (fun _ _ _ _ _ hs _ _=>hs)
  ⟨⟨b4,b5,b3⟩,KeepP.refl _ _,hB0⟩
  (fun x a' W=>∃ Bx,W0.heap.size≤Bx∧BoxA W Bx 32 #[.int .i64 x.1.r.src,.int .i64 x.1.r.bor,.int .i64 x.1.r.pap,.slice x.1.A x.1.n x.1.c,.int .i64 x.1.r.day,.int .i64 x.1.r.kn,.int .i64 x.1.r.un]∧a'={ tmps:=(a0.tmps.setIfInBounds 16 (rvV x.1)).setIfInBounds 9 (.pointer (some ⟨Bx,0,none⟩)),defers:=[] })
  (fun x a' _ X Y row hs hg hr=>by obtain ⟨Bx,g1,g2,g3⟩:=hs;exact ⟨Bx,g1,boxa_own Bx _ (fun (_:Unit)=>_) () X Y row g2 hg (fun r e=>(hr r e).2),g3⟩)
  ?assign ?body ?done ?stop
 case assign =>
  subst ha0
  rintro l pre x W K ⟨⟨g4,g5,g3⟩,gK,gB⟩ hK
  simp only [encR]
  gi_wp2
  exact hK _ _ ((KeepsOthers.alloc _ _).from _) (KeepP.of_below (B:=W.heap.size) (by exact bel_) fun k hk=>Nat.lt_of_lt_of_le (hPw k hk) gK.size) ⟨⟨g4.alloc _,g5.alloc _,g3.alloc _⟩,gK.trans (KeepP.of_below (B:=W.heap.size) (by exact bel_) fun k hk=>Nat.lt_of_lt_of_le (hPw k hk) gK.size),gB.alloc gB.size _⟩ ⟨W.heap.size,gK.size,BoxA.new W _ _,rfl⟩
 case body =>
  subst ha0
  rintro l pre x a' W hl ⟨r,hr⟩ ⟨⟨g4,g5,g3⟩,gK,gB⟩ ⟨Bx,hBx,bX,rfl⟩ hlt
  obtain ⟨⟨sp,sb,sl⟩,hst⟩:∃ s,staySI M day pre=s:=⟨_,rfl⟩
  rw [hst] at g4 g5
  have HST:=hd_ hst
  clear hst
  have hgs:=gK.size
  have xw:=HS.out x.1 ((List.mem_filter.1 x.2).1)
  have c0:=(gK.cell (b:=w.heap.size) (.inr (.inl rfl)) 7).trans (b0.cell 7)
  have c1:=(gK.cell (b:=(w.heap.size+1)) (.inr (.inr (.inl rfl))) 1).trans (b1.cell 1)
  have c2:=(gK.cell (b:=(w.heap.size+1+1)) (.inr (.inr (.inr (.inl rfl)))) 0).trans (b2.cell 0)
  have c4:=g4.cell
  have c5:=g5.cell
  have cX:=bX.cell
  have z4:=g4.lt
  have z5:=g5.lt
  have zX:=bX.lt
  have hmo:Tryz.prog.follows .mixedOrders=true:=by kernel_rfl
  have f4:∀ j,W.frozen? ⟨(w.heap.size+1+1+1+1),j,none⟩=false:=fun j=>by simp [World.frozen?,show W.heap[(w.heap.size+1+1+1+1)]?=_ from g4]
  have f5:∀ j,W.frozen? ⟨(w.heap.size+1+1+1+1+1),j,none⟩=false:=fun j=>by simp [World.frozen?,show W.heap[(w.heap.size+1+1+1+1+1)]?=_ from g5]
  simp only [List.setIfInBounds_toArray,List.set_cons_zero,List.set_cons_succ]
  by_cases h1:day<x.1.r.day
  ·have HF:Hid (stayStep M leaf day (sp,sb,sl) x.1.r=(sp,sb,sl)):=by show _=_;simp [stayStep,h1]
   gi_wp2
   exact ⟨(KeepsOthers.refl _).from _,KeepP.refl _ _,⟨⟨by rw [staySI_snoc,HST.out,HF.out];exact g4,by rw [staySI_snoc,HST.out,HF.out];exact g5,g3⟩,gK,gB⟩⟩
  ·by_cases h2:x.1.r.day≤sl
   ·have HF:Hid (stayStep M leaf day (sp,sb,sl) x.1.r=(sp,sb,sl)):=by show _=_;simp [stayStep,h2]
    gi_wp2
    exact ⟨(KeepsOthers.refl _).from _,KeepP.refl _ _,⟨⟨by rw [staySI_snoc,HST.out,HF.out];exact g4,by rw [staySI_snoc,HST.out,HF.out];exact g5,g3⟩,gK,gB⟩⟩
   ·obtain ⟨W3,hW3⟩:∃ W3,(((W.setCell ⟨(w.heap.size+1+1+1+1),0,none⟩ (.int .i64 x.1.r.bor)).setCell ⟨(w.heap.size+1+1+1+1),1,none⟩ (.int .i64 (-1))).setCell ⟨(w.heap.size+1+1+1+1+1),0,none⟩ (.int .i64 x.1.r.day)).drew=W3:=⟨_,rfl⟩
    have k1:¬ (fun k=>k<w.heap.size∨k=w.heap.size∨k=(w.heap.size+1)∨k=(w.heap.size+1+1)∨k=(w.heap.size+1+1+1+1+1+1)∨k=(w.heap.size+1+1+1+1+1+1+1)) (w.heap.size+1+1+1+1):=by simp only;omega
    have k2:¬ (fun k=>k<w.heap.size∨k=w.heap.size∨k=(w.heap.size+1)∨k=(w.heap.size+1+1)∨k=(w.heap.size+1+1+1+1+1+1)∨k=(w.heap.size+1+1+1+1+1+1+1)) (w.heap.size+1+1+1+1+1):=by simp only;omega
    have KO3:KeepsOthers W W3:=by rw [← hW3];exact (((KeepsOthers.setCell W _ _).trans (KeepsOthers.setCell _ _ _)).trans (KeepsOthers.setCell _ _ _)).trans (KeepsOthers.drew _)
    have KP3:KeepP (fun k=>k<w.heap.size∨k=w.heap.size∨k=(w.heap.size+1)∨k=(w.heap.size+1+1)∨k=(w.heap.size+1+1+1+1+1+1)∨k=(w.heap.size+1+1+1+1+1+1+1)) W W3:=by rw [← hW3];exact (((KeepP.setCell W _ k1).trans (KeepP.setCell _ _ k1)).trans (KeepP.setCell _ _ k2)).trans (KeepP.drew _)
    have n45:(w.heap.size+1+1+1+1)≠(w.heap.size+1+1+1+1+1):=by omega
    have n54:(w.heap.size+1+1+1+1+1)≠(w.heap.size+1+1+1+1):=by omega
    have G4:BoxA W3 (w.heap.size+1+1+1+1) 154 #[.int .i64 x.1.r.bor,.int .i64 (-1)]:=by rw [← hW3];exact ((g4.set 0 _).set 1 _).other n45 _
    have G5:BoxA W3 (w.heap.size+1+1+1+1+1) 3 #[.int .i64 x.1.r.day]:=by rw [← hW3];exact ((g5.other n54 _).other n54 _).set 0 _
    have n34:(w.heap.size+1+1+1)≠(w.heap.size+1+1+1+1):=by omega
    have n35:(w.heap.size+1+1+1)≠(w.heap.size+1+1+1+1+1):=by omega
    have G3:BoxA W3 (w.heap.size+1+1+1) 154 #[.int .i64 0,.int .i64 0]:=by rw [← hW3];exact ((g3.other n34 _).other n34 _).other n35 _
    have nX4:Bx≠(w.heap.size+1+1+1+1):=by omega
    have nX5:Bx≠(w.heap.size+1+1+1+1+1):=by omega
    have GX:BoxA W3 Bx 32 #[.int .i64 x.1.r.src,.int .i64 x.1.r.bor,.int .i64 x.1.r.pap,.slice x.1.A x.1.n x.1.c,.int .i64 x.1.r.day,.int .i64 x.1.r.kn,.int .i64 x.1.r.un]:=by rw [← hW3];exact ((bX.other nX4 _).other nX4 _).other nX5 _
    have l4:w.heap.size≤(w.heap.size+1+1+1+1):=by omega
    have l5:w.heap.size≤(w.heap.size+1+1+1+1+1):=by omega
    have GB:Below w.heap.size w W3:=by rw [← hW3];exact (((gB.setCell l4 _).setCell l4 _).setCell l5 _).drew
    gi_wp2
    refine wpIn_named2 fun f1 V1 hf1 hV1=>?_
    refine wpIn_cut (fun a' W'=>a'={ tmps:=((((f1.tmps.setIfInBounds 27 (.pointer (some ⟨Bx,1,none⟩))).setIfInBounds 28 (.int .i64 x.1.r.bor)).setIfInBounds 29 (.agg #[.int .i64 x.1.r.bor,.int .i64 (-1)])).setIfInBounds 30 (.pointer (some ⟨Bx,4,none⟩))).setIfInBounds 31 (.int .i64 x.1.r.day),defers:=[] }∧W'=W3) ?reg ?rest
    case reg =>
     rw [← hW3]
     subst hf1
     subst hV1
     clear KO3 KP3 G4 G5 G3 GX GB hW3
     gi_region
     all_goals exact ⟨rfl,rfl⟩
    case rest =>
     clear g4 g5 g3 c4 c5 cX hW3 f4 f5 hV1 bX z4 z5 zX
     subst hf1
     rintro a' W' ⟨rfl,rfl⟩
     simp only [List.setIfInBounds_toArray,List.set_cons_zero,List.set_cons_succ]
     have hlk:=(HM.out.keep (w':=W') (GB.block bm HM.out.lt)).look2 key_slips Tryz.underlying115 (a:=(x.1.r.src,leaf)) ⟨xw,hwl⟩ (zeroInt2 _)
     rw [getG_enc] at hlk
     have d0:=(KP3.cell (b:=w.heap.size) (.inr (.inl rfl)) 7).trans c0
     have d1:=(KP3.cell (b:=(w.heap.size+1)) (.inr (.inr (.inl rfl))) 1).trans c1
     have cX:=GX.cell
     have c4:=G4.cell
     have z4:=G4.lt
     have zX:=GX.lt
     clear c0 c1 c2
     have f4:∀ j,W'.frozen? ⟨(w.heap.size+1+1+1+1),j,none⟩=false:=fun j=>by simp [World.frozen?,show W'.heap[(w.heap.size+1+1+1+1)]?=_ from G4]
     cases hg:getN M (x.1.r.src,leaf) with
     | none =>
       have HF:Hid (stayStep M leaf day (sp,sb,sl) x.1.r=(x.1.r.bor,-1,x.1.r.day)):=by show _=_;rw [stayStep,if_neg (show ¬ (day<x.1.r.day∨x.1.r.day≤sl) from by omega)];simp [backI,hg]
       rw [hg] at hlk
       simp only [Option.map_none,Option.getD_none,Option.isSome_none] at hlk
       clear hg
       gi_wp2
       exact ⟨KO3.from _,KP3,⟨⟨by rw [staySI_snoc,HST.out,HF.out];exact G4,by rw [staySI_snoc,HST.out,HF.out];exact G5,G3⟩,gK.trans KP3,GB⟩⟩
     | some i =>
       have HF:Hid (stayStep M leaf day (sp,sb,sl) x.1.r=(x.1.r.bor,(i:Int),x.1.r.day)):=by show _=_;rw [stayStep,if_neg (show ¬ (day<x.1.r.day∨x.1.r.day≤sl) from by omega)];simp [backI,hg]
       rw [hg] at hlk
       simp only [Option.map_some,Option.getD_some,Option.isSome_some] at hlk
       clear hg
       gi_wp2
       exact ⟨(KO3.trans (KeepsOthers.setCell _ _ _)).from _,KP3.trans (KeepP.setCell _ _ k1),⟨⟨by rw [staySI_snoc,HST.out,HF.out];exact G4.set 1 _,by rw [staySI_snoc,HST.out,HF.out];exact G5.other n54 _,G3.other n34 _⟩,gK.trans (KP3.trans (KeepP.setCell _ _ k1)),GB.setCell l4 _⟩⟩
 case done =>
  subst ha0
  rintro D ys W hD hys ⟨⟨g4,g5,g3⟩,gK,gB⟩ hK
  have c4:=g4.cell
  have c3:=g3.cell
  have z4:=g4.lt
  have z3:=g3.lt
  have f3:∀ j,W.frozen? ⟨(w.heap.size+1+1+1),j,none⟩=false:=fun j=>by simp [World.frozen?,show W.heap[(w.heap.size+1+1+1)]?=_ from g3]
  gi_wp2
  obtain ⟨W2,hW2⟩:∃ W2,(W.setCell ⟨(w.heap.size+1+1+1),0,none⟩ (.int .i64 (staySI M day ys).1)).setCell ⟨(w.heap.size+1+1+1),1,none⟩ (.int .i64 (staySI M day ys).2.1)=W2:=⟨_,rfl⟩
  have hB2:Below w.heap.size w W2:=by rw [← hW2];exact (gB.setCell (by simp only;omega) _).setCell (by simp only;omega) _
  have hK2:W2.heap[D]?=some (.deferred (some [])):=by rw [← hW2];exact (Below.heap_setCell _ _ _ _ (by simp only;omega)).trans ((Below.heap_setCell _ _ _ _ (by simp only;omega)).trans hK)
  have g32:BoxA W2 (w.heap.size+1+1+1) 154 #[.int .i64 (staySI M day ys).1,.int .i64 (staySI M day ys).2.1]:=by rw [← hW2];exact (g3.set 0 _).set 1 _
  rw [hW2]
  clear hW2
  have g33:BoxA (W2.putObj D (.deferred none)) (w.heap.size+1+1+1) 154 #[.int .i64 (staySI M day ys).1,.int .i64 (staySI M day ys).2.1]:=(World.putObj_heap_other (by omega)).trans g32
  have c33:=g33.cell
  refine ⟨by simp,.inl ⟨_,_,rfl,run_takeDeferred hK2,?_⟩⟩
  refine ⟨.agg #[.int .i64 (staySI M day ys).1,.int .i64 (staySI M day ys).2.1],?_,?_,hB2.trans (belowK_b (w:=w) lr_ W2 D _ _ (by omega) hK2 rfl rfl)⟩
  ·simp [results,Tryz.f134,go_sem]
   try go_simp
  ·rw [← hys,List.map_map];rfl
 case stop =>
  rintro D c pre W _ _ h _
  exact h.elim
end Go.Proofs.YtoiompoapikkbaaGreat
