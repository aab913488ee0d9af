/- Layer 2 of the texts that LoanPlaces takes: Pazq. -/
import Derived.Test.YtoiompoapikkbaaGreatPayq
set_option linter.unusedVariables false
set_option linter.unusedSimpArgs false
set_option maxHeartbeats 16000000
namespace Go.Proofs.YtoiompoapikkbaaGreat
open Go.RowKit Go.Maps
def fineB (T:List Bool) (rt:List Rtn) (i:Nat) (t:Rtn) (r:Rcp) (lv:List Int):Bool:=lv.all fun x=>decide (x∈r.lv) && !((T.zip rt).take i).any (rtAt t.rcp x)
def tellB (l:Led) (kn:Int) (T:List Bool) (i:Nat) (t:Rtn):Bool:=match rcIx l.rc t.rcp kn with
 | none=>false
 | some k=>match l.rc[k]? with
   | none=>false
   | some r=>countsB t.kn t.un kn && (!decide (t.hi<max t.lo (r.day+1)) && fineB T l.rt i t r t.lv)
def tellK (l:Led) (kn:Int):Nat→List Bool
 | 0=>List.replicate l.rt.length false
 | k+1=>match l.rt[k]? with
   | none=>tellK l kn k
   | some t=>(tellK l kn k).set k (tellB l kn (tellK l kn k) k t)
theorem find_ix {α:Type} (p:α→Bool):∀ l:List α,l.find? p=(l.findIdx? p).bind fun k=>l[k]?
 | []=>rfl
 | x :: l=>by
   rw [List.find?_cons,List.findIdx?_cons]
   cases h:p x with
   | true=>simp
   | false =>
     simp only [find_ix p l]
     cases List.findIdx? p l <;> simp
theorem findR_cnt (l:Led) (kn src:Int):findR (cntR l kn) src=(rcIx l.rc src kn).bind fun k=>l.rc[k]?:=by
 rw [rcIx,← find_ix,findR,cntR,List.find?_filter]
 congr 1
 funext r
 rw [rcAt,Bool.and_comm]
 cases countsB r.kn r.un kn <;> by_cases h:r.src=src <;> simp [h]
theorem any_take {T:List Bool} {rt:List Rtn} {i:Nat} (s x:Int) (h:∀ j,i≤j→j<rt.length→T[j]?=some false):((T.zip rt).take i).any (rtAt s x)=(T.zip rt).any (rtAt s x):=by
 conv=>rhs;rw [← List.take_append_drop i (T.zip rt),List.any_append]
 have hd:((T.zip rt).drop i).any (rtAt s x)=false:=by
  rw [List.any_eq_false]
  intro p hp
  obtain ⟨j,hj,he⟩:=List.mem_iff_getElem.1 hp
  rw [List.getElem_drop,List.getElem_zip] at he
  simp at hj
  have h2:=h (i+j) (by omega) (by omega)
  rw [List.getElem?_eq_getElem (by omega)] at h2
  rw [← he]
  simp [rtAt,Option.some.inj h2]
 rw [hd,Bool.or_false]
theorem rt_any {T:List Bool} {rt:List Rtn} {s x:Int}:(rtIx T rt s x).isNone=!(T.zip rt).any (rtAt s x):=by
 rw [rtIx]
 cases h:(T.zip rt).any (rtAt s x) with
 | false=>rw [ix_none h];rfl
 | true =>
   cases h2:(T.zip rt).findIdx? (rtAt s x) with
   | some k=>rfl
   | none =>
     obtain ⟨p,hp,hq⟩:=List.any_eq_true.1 h
     have:=List.findIdx?_eq_none_iff.1 h2 p hp
     rw [hq] at this
     cases this
theorem tell_opn (l:Led) (kn:Int):∀ k,k≤l.rt.length→(opnK kn (cntR l kn) l.rt l.rt.length k).T=tellK l kn k
 | 0,_=>rfl
 | k+1,hk=>by
   have ih:=tell_opn l kn k (by omega)
   obtain ⟨i1,i2⟩:=opn_inv kn (cntR l kn) l.rt k (by omega)
   obtain ⟨t,ht⟩:∃ t,l.rt[k]?=some t:=⟨l.rt[k],List.getElem?_eq_getElem (by omega)⟩
   rw [opnK_succ ht,tellK,ht]
   dsimp only
   generalize opnK kn (cntR l kn) l.rt l.rt.length k=S at ih i1 i2
   rw [← ih]
   have hTk:=i2 k lr_ (by omega)
   have hset:S.T.set k false=S.T:=by
    have hlt:k<S.T.length:=(List.getElem?_eq_some_iff.1 hTk).1
    rw [eq_comm,← (List.getElem?_eq_some_iff.1 hTk).2,List.set_getElem_self]
   have hfine:∀ r:Rcp,r.src=t.rcp→takesB (encM S.M) r t.lv=fineB S.T l.rt k t r t.lv:=fun r hr=>by
    rw [takesB,fineB]
    congr 1
    funext x
    rw [getG_enc,hr,i1,any_take _ _ i2,← rt_any,Bool.and_comm]
    cases rtIx S.T l.rt t.rcp x <;> rfl
   have key:(readR kn (cntR l kn) S.M t).isSome=tellB l kn S.T k t:=by
    unfold readR tellB
    rw [findR_cnt]
    cases h1:rcIx l.rc t.rcp kn with
    | none=>rfl
    | some i =>
      show (match l.rc[i]? with | none=>none | some r=>_).isSome=match l.rc[i]? with | none=>false | some r=>_
      cases h2:l.rc[i]? with
      | none=>rfl
      | some r =>
        have hr:r.src=t.rcp:=by
         have h3:=(List.findIdx?_eq_some_iff_getElem.1 h1)
         obtain ⟨hl,hp,_⟩:=h3
         have h4:l.rc[i]=r:=(List.getElem?_eq_some_iff.1 h2).2
         rw [h4] at hp
         simp [rcAt] at hp
         exact hp.1
        dsimp only
        rw [hfine r hr,Bool.and_comm (fineB _ _ _ _ _ _)]
        split
        ·rename_i h;rw [h];rfl
        ·rename_i h;simp at h ⊢;simpa using h
   unfold readS
   cases hr:readR kn (cntR l kn) S.M t with
   | none=>rw [← key,hr];exact hset.symm
   | some r=>rw [← key,hr];rfl
theorem opn_tell (l:Led) (kn:Int):(opnL l kn).T=tellK l kn l.rt.length:=tell_opn l kn _ lr_
def firstP (p:Rcp→Rcp→Bool):List Rcp→Option (Rcp × Rcp)
 | []=>none
 | x :: l=>match l.find? (p x) with
   | some y=>some (x,y)
   | none=>firstP p l
theorem dblR_first (M:List ((Int × Int) × Nat)) (P:List (Int × Int)):∀ l,dblR M P l=firstP (dblB M P) l
 | []=>rfl
 | x :: l=>by
   rw [dblR,firstP,dblR_first M P l]
   cases l.find? (dblB M P x) <;> rfl
theorem find_congr {α:Type} {p q:α→Bool}:∀ {l:List α},(∀ x∈l,p x=q x)→l.find? p=l.find? q
 | [],_=>rfl
 | x :: l,h=>by
   rw [List.find?_cons,List.find?_cons,h x (List.mem_cons_self ..),find_congr fun y hy=>h y (List.mem_cons_of_mem _ hy)]
theorem firstP_congr {p q:Rcp→Rcp→Bool}:∀ {l:List Rcp},(∀ x∈l,∀ y∈l,p x y=q x y)→firstP p l=firstP q l
 | [],_=>rfl
 | x :: l,h=>by
   rw [firstP,firstP,find_congr fun y hy=>h x (List.mem_cons_self ..) y (List.mem_cons_of_mem _ hy),firstP_congr fun a ha b hb=>h a (List.mem_cons_of_mem _ ha) b (List.mem_cons_of_mem _ hb)]
theorem firstP_filter {p:Rcp→Rcp→Bool} {q:Rcp→Bool} (h:∀ x y,p x y=true→q x=true∧q y=true):∀ l,firstP p (l.filter q)=firstP p l
 | []=>rfl
 | x :: l=>by
   have ih:=firstP_filter h l
   have hf:(l.filter q).find? (p x)=l.find? (p x):=by
    rw [List.find?_filter]
    congr 1
    funext y
    cases hp:p x y with
    | false=>simp
    | true=>simp [(h x y hp).2]
   cases hq:q x with
   | true=>rw [List.filter_cons_of_pos (by simpa using hq),firstP,firstP,hf,ih]
   | false =>
     have hn:l.find? (p x)=none:=by
      rw [List.find?_eq_none]
      intro y _ hp
      have:=(h x y hp).1
      rw [hq] at this
      cases this
     rw [List.filter_cons_of_neg (by simp [hq]),ih,firstP,hn]
theorem refD_cnt {l:Led} {T:List Bool} {kn:Int} {x y:Rcp} (h:refD l T kn x y=true):countsB x.kn x.un kn=true∧countsB y.kn y.un kn=true:=by
 have hr:∀ (a b:Rcp),a.lv.any (refOut l T kn a b)=true→countsB a.kn a.un kn=true∧countsB b.kn b.un kn=true:=fun a b h=>by
  obtain ⟨f,_,hf⟩:=List.any_eq_true.1 h
  simp only [refOut,Bool.and_eq_true] at hf
  exact ⟨hf.1.1,hf.2.1.1⟩
 rw [refD] at h
 split at h
 ·exact (hr y x h).symm
 ·exact hr x y h
theorem find_self {l:List Rcp} (hn:(l.map Rcp.src).Nodup) {u:Rcp} (hu:u∈l):findR l u.src=some u:=by
 rw [findR]
 induction l with
 | nil=>cases hu
 | cons x l ih =>
   rw [List.map_cons,List.nodup_cons] at hn
   rw [List.find?_cons]
   rcases List.mem_cons.1 hu with rfl | hu
   ·simp
   ·have hne:(x.src == u.src)=false:=by
     rw [beq_eq_false_iff_ne]
     intro he
     exact hn.1 (he ▸ List.mem_map.2 ⟨u,hu,rfl⟩)
    rw [hne]
    exact ih hn.2 hu
theorem cnt_self {l:Led} {kn:Int} (h:ledB l=true) {u:Rcp} (hu:u∈cntR l kn):findR (cntR l kn) u.src=some u:=by
 refine find_self ?_ hu
 simp only [ledB,Bool.and_eq_true,decide_eq_true_eq] at h
 have hn:(l.rc.map Rcp.src).Nodup:=by
  have h5:=h.2.2.2.2.1
  rw [srcL] at h5
  simp only [List.nodup_append] at h5
  first | exact h5.1 | exact h5.1.1
 exact hn.sublist ((List.filter_sublist ..).map _)
theorem dbl_first {l:Led} {kn:Int} (h:ledB l=true):dblR (opnL l kn).M (opnL l kn).P (cntR l kn)=firstP (refD l (tellK l kn l.rt.length) kn) l.rc:=by
 rw [dblR_first,← opn_tell,← firstP_filter (q:=fun r=>countsB r.kn r.un kn) (fun x y h=>refD_cnt h) l.rc]
 refine firstP_congr fun x hx y hy=>?_
 exact dbl_ref l kn x y (by simpa using (List.mem_filter.1 hx).2) (by simpa using (List.mem_filter.1 hy).2) (cnt_self h hx) (cnt_self h hy)
theorem sgN_nth {S:List Sgt} {kn:Int}:∀ {k:Nat},k≤S.length→(sgN S kn k).map (fun i=>S[i.toNat]?)=(((S.take k).filter fun s=>countsB s.kn s.un kn).map some)
 | 0,_=>by simp [sgN]
 | k+1,hk=>by
   obtain ⟨s,hs⟩:∃ s,S[k]?=some s:=⟨S[k],List.getElem?_eq_getElem (by omega)⟩
   rw [sgN_succ hs,List.map_append,sgN_nth (by omega),take_snoc_some hs,List.filter_append,List.map_append]
   congr 1
   cases hc:countsB s.kn s.un kn <;> simp [hc,hs]
theorem sgN_cnt (l:Led) (kn:Int):(sgN l.sg kn l.sg.length).map (fun i=>l.sg[i.toNat]?)=(cntS l kn).map some:=by
 rw [sgN_nth lr_,List.take_of_length_le lr_]
 rfl
theorem r_leavesOf_v (pp:List Ppr) (x:Lsl) (n v:Int) (w:World) (hn:x.pn≤9223372036854775807) (hd:Pps w w.heap.size x.pA x.pn pp) (h:lvOf pp n=v) :
 Calls Tryz.prog 128 #[.agg #[.slice x.pA x.pn x.pc,.slice x.rA x.rn x.rc,.slice x.tA x.tn x.tc,.slice x.sA x.sn x.sc],.int .i64 n] w fun e w'=>e=.returned (.int .i64 v)∧Below w.heap.size w w':=h ▸ r_leavesOf pp x n w hn hd
theorem p_isOnly (l:List Int) (v:Int) (A:Option Addr) (n c:Nat) (w:World) (hn:n≤1000000) (h:Is w w.heap.size A n l) :
 Calls Tryz.prog 126 #[.slice A n c,.int .i64 v] w fun e w'=>e=.returned (.bool (decide (l=[v])))∧w=w':=by
 have hl:=h.len
 by_cases h1:n=1
 ·subst h1
  obtain ⟨b,o,x,rfl,hb,hx,hc⟩:=h.at_ (k:=0) (by omega)
  obtain rfl:l=[x]:=by
   match l,hl with
   | [y],_=>simpa using hx
  have e1:decide ([x]=[v])=(x == v):=by rw [Bool.eq_iff_iff];simp
  rw [e1]
  clear h hl hx e1
  rw [Nat.add_zero] at hc
  go_enter Tryz.func126,Tryz.ntmps126
  go_wp2
  go_ret
  exact ⟨rfl,rfl⟩
 ·have e1:decide (l=[v])=false:=by simp;intro e;rw [e] at hl;simp at hl;omega
  rw [e1]
  clear h hl e1
  go_enter Tryz.func126,Tryz.ntmps126
  go_wp2
  go_ret
  exact ⟨rfl,rfl⟩
theorem p_checkPerson2 (p:Int) (w:World):Calls Tryz.prog 174 #[.int .i64 p] w fun e w'=>e=.returned (.int .i64 (errI (withinB p 0 99) 1))∧w=w':=by
 go_enter Tryz.func174,Tryz.ntmps174
 go_wp2_with (first | (go_at_call 72;refine (p_within _ _ _ _).mono ?_;rintro e w1 ⟨rfl,rfl⟩) | (go_at_call 70;refine (p_verdict _ _ _).mono ?_;rintro e w1 ⟨rfl,rfl⟩))
 go_ret
 exact ⟨rfl,rfl⟩
theorem p_checkFolio (pp:List Ppr) (x:Lsl) (a b:Int) (w:World) (hn:x.pn≤9223372036854775807) (hd:Pps w w.heap.size x.pA x.pn pp) :
 Calls Tryz.prog 121 #[.agg #[.slice x.pA x.pn x.pc,.slice x.rA x.rn x.rc,.slice x.tA x.tn x.tc,.slice x.sA x.sn x.sc],.agg #[.int .i64 a,.int .i64 b]] w fun e w'=>e=.returned (.int .i64 (errI (folB pp a b) 26))∧Below w.heap.size w w':=by
 have HD:Hid (∀ W:World,Below w.heap.size w W→Calls Tryz.prog 55 #[.agg #[.slice x.pA x.pn x.pc,.slice x.rA x.rn x.rc,.slice x.tA x.tn x.tc,.slice x.sA x.sn x.sc],.agg #[.int .i64 a,.int .i64 b]] W fun e w'=>e=.returned (.bool (folB pp a b))∧Below W.heap.size W w'):=by
  show ∀ _,_
  exact fun W hW=>p_has pp x a b W hn (hd.now abP hW)
 clear hd
 go_enter Tryz.func121,Tryz.ntmps121
 go_wp2_with (first | (go_at_call 55;refine (HD.out _ (by exact bel_)).mono ?_;rintro e w1 ⟨rfl,hb1⟩;have HB1:Below w.heap.size w w1:=bt_ (by exact bel_) hb1) | (go_at_call 70;refine (p_verdict _ _ _).mono ?_;rintro e w1 ⟨rfl,rfl⟩))
 go_ret
 exact ⟨rfl,HB1⟩
theorem p_checkPaper2 (pp:List Ppr) (x:Lsl) (a:Int) (w:World) (hn:x.pn≤9223372036854775807) (hd:Pps w w.heap.size x.pA x.pn pp) :
 Calls Tryz.prog 124 #[.agg #[.slice x.pA x.pn x.pc,.slice x.rA x.rn x.rc,.slice x.tA x.tn x.tc,.slice x.sA x.sn x.sc],.int .i64 a] w fun e w'=>e=.returned (.int .i64 (errI (folB pp a 1) 26))∧Below w.heap.size w w':=by
 have HD:Hid (∀ W:World,Below w.heap.size w W→Calls Tryz.prog 121 #[.agg #[.slice x.pA x.pn x.pc,.slice x.rA x.rn x.rc,.slice x.tA x.tn x.tc,.slice x.sA x.sn x.sc],.agg #[.int .i64 a,.int .i64 1]] W fun e w'=>e=.returned (.int .i64 (errI (folB pp a 1) 26))∧Below W.heap.size W w'):=by
  show ∀ _,_
  exact fun W hW=>p_checkFolio pp x a 1 W hn (hd.now abP hW)
 clear hd
 go_enter Tryz.func124,Tryz.ntmps124
 go_wp2_with (go_at_call 121;refine (HD.out _ (by exact bel_)).mono ?_;rintro e w1 ⟨rfl,hb1⟩;have HB1:Below w.heap.size w w1:=bt_ (by exact bel_) hb1)
 go_ret
 exact ⟨rfl,HB1⟩
end Go.Proofs.YtoiompoapikkbaaGreat
