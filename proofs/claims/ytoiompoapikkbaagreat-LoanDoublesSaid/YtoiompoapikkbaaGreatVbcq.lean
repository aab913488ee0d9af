/- Layer 2 of the texts that LoanDoubles takes: Vbcq. -/
import Derived.Test.YtoiompoapikkbaaGreatVbaq
import Derived.Test.YtoiompoapikkbaaGreatVbbq
set_option linter.unusedVariables false
set_option linter.unusedSimpArgs false
/- Layer 2: the first two receipts that are double, plain. -/
namespace Go.Proofs.YtoiompoapikkbaaGreat
open Go.RowKit Go.Maps
def firstP (p:Rcp→Rcp→Bool):List Rcp→Option (Rcp × Rcp)
 | []=>none
 | x :: l=>match l.find? (p x) with
   | some y=>some (x,y)
   | none=>firstP p l
theorem dblR_first (M:List ((Int × Int) × Nat)) (P:List (Int × Int)):∀ l,dblR M P l=firstP (dblB M P) l
 | []=>rfl
 | x :: l=>by
   rw [dblR,firstP,dblR_first M P l]
   cases l.find? (dblB M P x) <;> rfl
theorem find_congr {α:Type} {p q:α→Bool}:∀ {l:List α},(∀ x∈l,p x=q x)→l.find? p=l.find? q
 | [],_=>rfl
 | x :: l,h=>by
   rw [List.find?_cons,List.find?_cons,h x (List.mem_cons_self ..),find_congr fun y hy=>h y (List.mem_cons_of_mem _ hy)]
theorem firstP_congr {p q:Rcp→Rcp→Bool}:∀ {l:List Rcp},(∀ x∈l,∀ y∈l,p x y=q x y)→firstP p l=firstP q l
 | [],_=>rfl
 | x :: l,h=>by
   rw [firstP,firstP,find_congr fun y hy=>h x (List.mem_cons_self ..) y (List.mem_cons_of_mem _ hy),firstP_congr fun a ha b hb=>h a (List.mem_cons_of_mem _ ha) b (List.mem_cons_of_mem _ hb)]
theorem firstP_filter {p:Rcp→Rcp→Bool} {q:Rcp→Bool} (h:∀ x y,p x y=true→q x=true∧q y=true):∀ l,firstP p (l.filter q)=firstP p l
 | []=>rfl
 | x :: l=>by
   have ih:=firstP_filter h l
   have hf:(l.filter q).find? (p x)=l.find? (p x):=by
    rw [List.find?_filter]
    congr 1
    funext y
    cases hp:p x y with
    | false=>simp
    | true=>simp [(h x y hp).2]
   cases hq:q x with
   | true=>rw [List.filter_cons_of_pos (by simpa using hq),firstP,firstP,hf,ih]
   | false =>
     have hn:l.find? (p x)=none:=by
      rw [List.find?_eq_none]
      intro y _ hp
      have:=(h x y hp).1
      rw [hq] at this
      cases this
     rw [List.filter_cons_of_neg (by simp [hq]),ih,firstP,hn]
theorem refD_cnt {l:Led} {T:List Bool} {kn:Int} {x y:Rcp} (h:refD l T kn x y=true):countsB x.kn x.un kn=true∧countsB y.kn y.un kn=true:=by
 have hr:∀ (a b:Rcp),a.lv.any (refOut l T kn a b)=true→countsB a.kn a.un kn=true∧countsB b.kn b.un kn=true:=fun a b h=>by
  obtain ⟨f,_,hf⟩:=List.any_eq_true.1 h
  simp only [refOut,Bool.and_eq_true] at hf
  exact ⟨hf.1.1,hf.2.1.1⟩
 rw [refD] at h
 split at h
 ·exact (hr y x h).symm
 ·exact hr x y h
theorem find_self {l:List Rcp} (hn:(l.map Rcp.src).Nodup) {u:Rcp} (hu:u∈l):findR l u.src=some u:=by
 rw [findR]
 induction l with
 | nil=>cases hu
 | cons x l ih =>
   rw [List.map_cons,List.nodup_cons] at hn
   rw [List.find?_cons]
   rcases List.mem_cons.1 hu with rfl | hu
   ·simp
   ·have hne:(x.src == u.src)=false:=by
     rw [beq_eq_false_iff_ne]
     intro he
     exact hn.1 (he ▸ List.mem_map.2 ⟨u,hu,rfl⟩)
    rw [hne]
    exact ih hn.2 hu
theorem cnt_self {l:Led} {kn:Int} (h:ledB l=true) {u:Rcp} (hu:u∈cntR l kn):findR (cntR l kn) u.src=some u:=by
 refine find_self ?_ hu
 simp only [ledB,Bool.and_eq_true,decide_eq_true_eq] at h
 have hn:(l.rc.map Rcp.src).Nodup:=by
  have h5:=h.2.2.2.2.1
  rw [srcL] at h5
  simp only [List.nodup_append] at h5
  first | exact h5.1 | exact h5.1.1
 exact hn.sublist ((List.filter_sublist ..).map _)
theorem dbl_first {l:Led} {kn:Int} (h:ledB l=true):dblR (opnL l kn).M (opnL l kn).P (cntR l kn)=firstP (refD l (tellK l kn l.rt.length) kn) l.rc:=by
 rw [dblR_first,← opn_tell,← firstP_filter (q:=fun r=>countsB r.kn r.un kn) (fun x y h=>refD_cnt h) l.rc]
 refine firstP_congr fun x hx y hy=>?_
 exact dbl_ref l kn x y (by simpa using (List.mem_filter.1 hx).2) (by simpa using (List.mem_filter.1 hy).2) (cnt_self h hx) (cnt_self h hy)
end Go.Proofs.YtoiompoapikkbaaGreat
/- Layer 2: a valid receipt's leaves are folios just where its last one is. -/
namespace Go.Proofs.YtoiompoapikkbaaGreat
open Go.RowKit
theorem val_rise {l:List Int} {ok:Int→Bool} {most:Nat} (h:valB id ok most l=true):∀ (j:Nat) (h1:j+1<l.length),l[j]<l[j+1]:=fun j h1=>by
 rw [valB,Bool.and_eq_true] at h
 have h2:=List.all_eq_true.1 h.2 (j+1) (List.mem_range.2 h1)
 have e1:l[j+1]?=some l[j+1]:=List.getElem?_eq_getElem h1
 have e2:l[j]?=some (l[j]'(by omega)):=List.getElem?_eq_getElem (by omega)
 simp only [valAt,e1,e2,id,Bool.and_eq_true,decide_eq_true_eq] at h2
 exact h2.2
theorem rise_le {l:List Int} (h:∀ (j:Nat) (h1:j+1<l.length),l[j]<l[j+1]):∀ (d i:Nat) (hi:i+d<l.length),l[i]'(by omega)≤l[i+d]
 | 0,i,hi=>by simp
 | d+1,i,hi=>by
   have h1:=rise_le h d i (by omega)
   have h2:=h (i+d) (by omega)
   have e:i+(d+1)=i+d+1:=by omega
   simp only [e]
   omega
def Rcp.last (r:Rcp):Int:=r.lv.getD (r.lv.length - 1) 0
theorem fol_last {r:Rcp} (pp:List Ppr) (h:r.okB=true):(rcFol r).all (fun f=>folB pp f.1 f.2)=folB pp r.pap r.last:=by
 have h1:=h
 simp only [Rcp.okB,Bool.and_eq_true] at h1
 have hl:=h1.2.2.2.1
 rw [leavesB,Bool.and_eq_true,decide_eq_true_eq] at hl
 obtain ⟨h0,hv⟩:=hl
 have hr:=val_rise hv
 have ho:=val_all hv
 have hlast:r.last=r.lv[r.lv.length - 1]'(by omega):=by
  rw [Rcp.last,List.getD_eq_getElem?_getD,List.getElem?_eq_getElem (by omega)];rfl
 rw [rcFol,List.all_map,Bool.eq_iff_iff,List.all_eq_true]
 constructor
 ·intro ha
  have:=ha r.last (by rw [hlast];exact List.getElem_mem _)
  simpa using this
 ·intro hf y hy
  obtain ⟨i,hi,rfl⟩:=List.getElem_of_mem hy
  have h2:=rise_le hr (r.lv.length - 1 - i) i (by omega)
  have e:i+(r.lv.length - 1 - i)=r.lv.length - 1:=by omega
  simp only [e] at h2
  have h3:=ho _ (List.getElem_mem hi)
  simp only [folB,withinB,leafB,Function.comp,Bool.and_eq_true,decide_eq_true_eq] at hf h3 ⊢
  rw [hlast] at hf
  omega
def rcOk (pp:List Ppr) (r:Rcp):Bool:=r.okB && folB pp r.pap r.last
def sgOk (pp:List Ppr) (s:Sgt):Bool:=s.okB && folB pp s.pap s.leaf
theorem val_ext {α:Type} {num:α→Int} {ok ok':α→Bool} {l:List α} (h:∀ x∈l,ok x=ok' x) (most:Nat):valB num ok most l=valB num ok' most l:=by
 have h1:∀ k,valAt num ok l k=valAt num ok' l k:=fun k=>by
  cases k with
  | zero =>
    cases h0:l[0]? with
    | none=>simp [valAt,h0]
    | some x=>simp [valAt,h0,h x (List.mem_of_getElem? h0)]
  | succ j =>
    cases h0:l[j+1]? with
    | none=>simp [valAt,h0]
    | some x =>
      cases h2:l[j]? with
      | none=>simp [valAt,h0,h2]
      | some y=>simp [valAt,h0,h2,h x (List.mem_of_getElem? h0)]
 rw [valB,valB,funext h1]
theorem val_and {α:Type} {num:α→Int} {ok q:α→Bool} {l:List α} (most:Nat):valB num (fun x=>ok x && q x) most l=(valB num ok most l && l.all q):=by
 by_cases hq:l.all q=true
 ·rw [hq,Bool.and_true]
  exact val_ext (fun x hx=>by simp [List.all_eq_true.1 hq x hx]) most
 ·have hf:l.all q=false:=by simpa using hq
  rw [hf,Bool.and_false,Bool.eq_false_iff]
  intro h
  refine hq (List.all_eq_true.2 fun x hx=>?_)
  have:=val_all h x hx
  simp only [Bool.and_eq_true] at this
  exact this.2
theorem ledB_ref (l:Led):ledB l=(valB Ppr.id Ppr.okB 12 l.pp && (valB Rcp.src (rcOk l.pp) 60 l.rc && (valB Rtn.src Rtn.okB 60 l.rt && (valB Sgt.src (sgOk l.pp) 60 l.sg && decide (srcL l).Nodup)))):=by
 have e1:valB Rcp.src (rcOk l.pp) 60 l.rc=(valB Rcp.src Rcp.okB 60 l.rc && l.rc.all fun r=>folB l.pp r.pap r.last):=val_and 60
 have e2:valB Sgt.src (sgOk l.pp) 60 l.sg=(valB Sgt.src Sgt.okB 60 l.sg && l.sg.all fun s=>folB l.pp s.pap s.leaf):=val_and 60
 have e3:folsB l.pp (namL l)=((l.rc.all fun r=>(rcFol r).all fun f=>folB l.pp f.1 f.2) && l.sg.all fun s=>folB l.pp s.pap s.leaf):=by
  rw [folsB,namL,List.all_append,List.all_flatMap,List.all_map]
  rfl
 rw [ledB,e1,e2,e3]
 by_cases hr:valB Rcp.src Rcp.okB 60 l.rc=true
 ·have h4:(l.rc.all fun r=>(rcFol r).all fun f=>folB l.pp f.1 f.2)=l.rc.all fun r=>folB l.pp r.pap r.last:=by
   rw [Bool.eq_iff_iff,List.all_eq_true,List.all_eq_true]
   exact ⟨fun h r hr'=>by rw [← fol_last l.pp (val_all hr r hr')];exact h r hr',fun h r hr'=>by rw [fol_last l.pp (val_all hr r hr')];exact h r hr'⟩
  rw [h4]
  cases valB Ppr.id Ppr.okB 12 l.pp <;> cases valB Rcp.src Rcp.okB 60 l.rc <;> cases valB Rtn.src Rtn.okB 60 l.rt <;> cases valB Sgt.src Sgt.okB 60 l.sg <;> cases decide (srcL l).Nodup <;> simp
 ·have hf:valB Rcp.src Rcp.okB 60 l.rc=false:=by simpa using hr
  rw [hf]
  simp
end Go.Proofs.YtoiompoapikkbaaGreat
/- Layer 2: an account that is open, and one that is settled. -/
namespace Go.Proofs.YtoiompoapikkbaaGreat
open Go.RowKit Go.Maps
def preE (l:Led) (ds:List Int):Int:=orL [errI (ledB l) 24,errI (daysOk ds) 6]
theorem pre_zero {l:Led} {ds:List Int} (h:preE l ds=0):ledB l=true∧daysOk ds=true:=by
 unfold preE at h
 cases h1:ledB l <;> cases h2:daysOk ds <;> simp_all [orL,errI]
structure OpnA (w:World) (a:Acc) (l:Led) (kn:Int):Prop where
 acc:AccR w a (opnL l kn).M (cntR l kn) (opnL l kn).P
 sg:Sgs w w.heap.size a.SA a.Sn (cntS l kn)
 tl:Sq QB 1 w w.heap.size a.TA a.Tn (opnL l kn).T
 pn:a.Pn=l.rt.length
 tn:a.Tn=l.rt.length
 sn:a.Sn≤60
 cs:a.Sn≤a.Sc∧a.Sc≤maxLen
theorem OpnA.now {w w':World} {a:Acc} {l:Led} {kn:Int} (h:OpnA w a l kn) (hb:Below w.heap.size w w'):OpnA w' a l kn:=⟨h.acc.now hb,h.sg.now abS hb,h.tl.now abB hb,h.pn,h.tn,h.sn,h.cs⟩
theorem p_openA (l:Led) (x:Lsl) (kn:Int) (w:World) (hlv:LedOk l) (hd:LedIn w w.heap.size x l) :
 Calls Tryz.prog 101 #[.agg #[.slice x.pA x.pn x.pc,.slice x.rA x.rn x.rc,.slice x.tA x.tn x.tc,.slice x.sA x.sn x.sc],.int .i64 kn] w fun e w'=>∃ RA Rn Rc SA Sn Sc bm TA Tn Tc PA Pn Pc,
  e=.returned (accV ⟨x,kn,RA,Rn,Rc,SA,Sn,Sc,bm,TA,Tn,Tc,PA,Pn,Pc⟩)∧Below w.heap.size w w'∧OpnA w' ⟨x,kn,RA,Rn,Rc,SA,Sn,Sc,bm,TA,Tn,Tc,PA,Pn,Pc⟩ l kn:=by
 refine (p_open l x kn w hlv hd).mono ?_
 rintro e w' ⟨⟨y,kn2,RA,Rn,Rc,SA,Sn,Sc,bm,TA,Tn,Tc,PA,Pn,Pc⟩,rfl,hb,hx,hk,hac,hsg,htl,hpn,htn,hsn,hcs⟩
 obtain rfl:y=x:=hx
 obtain rfl:kn2=kn:=hk
 have ht:l.rt.length=y.tn:=hd.t.len
 exact ⟨RA,Rn,Rc,SA,Sn,Sc,bm,TA,Tn,Tc,PA,Pn,Pc,rfl,hb,hac,hsg,htl,hpn.trans ht.symm,htn.trans ht.symm,hsn,hcs⟩
def setE (l:Led) (kn:Int):Int:=match dblR (opnL l kn).M (opnL l kn).P (cntR l kn),narL (opnL l kn).M (cntR l kn) (cntS l kn) (opnL l kn).P with
 | some _,_=>25
 | none,none=>27
 | none,some _=>0
def setP (l:Led) (kn:Int):List (Int × Int):=(narL (opnL l kn).M (cntR l kn) (cntS l kn) (opnL l kn).P).getD []
theorem cnt_sgs {l:Led} (h:LedOk l) (kn:Int):sgsOk (cntS l kn):=fun s hs=>h.sg s (List.mem_filter.1 hs).1
abbrev accC (a:Acc):Array Value:=#[.slice a.x.pA a.x.pn a.x.pc,.slice a.x.rA a.x.rn a.x.rc,.slice a.x.tA a.x.tn a.x.tc,.slice a.x.sA a.x.sn a.x.sc,.int .i64 a.kn,.slice a.RA a.Rn a.Rc,.slice a.SA a.Sn a.Sc,.map (some a.bm),.slice a.TA a.Tn a.Tc,.slice a.PA a.Pn a.Pc]
theorem AccR.settled {w1 ws:World} {a:Acc} {M:List ((Int × Int) × Nat)} {R:List Rcp} {P P':List (Int × Int)} {A:Option Addr} {c base:Nat} (h:AccR w1 a M R P) (hB:Below w1.heap.size w1 ws) (ho:ws.ownsRow base 143 2 (.slice A a.Pn c) a.Pn (folCells P')) (hl:P'.length=a.Pn):AccR ws { a with PA:=A,Pc:=c } M R P' :=
 ⟨h.m.ext hB,h.r.now abR hB,sq_of_own ho hl,h.nR,h.cR,h.okR,h.nP,(fun e=>by
   have e:A=none:=e
   subst e
   rcases ho.2 with ⟨h1,_⟩ | ⟨g,cap,cur,h1,_⟩
   ·injection h1
   ·cases h1),h.mP⟩
theorem p_settleN (l:Led) (kn:Int) (a:Acc) (v:Int) (w:World) (hl:LedOk l) (h:OpnA w a l kn) (hv:setE l kn=v) (h0:¬ v=0) :
 Calls Tryz.prog 112 #[.pointer (some ⟨w.heap.size,0,none⟩)] (w.alloc (.cells (accC a) 119)) fun e w'=>e=.returned (.int .i64 v)∧Below w.heap.size w w':=by
 have hb:Below w.heap.size w (w.alloc (.cells (accC a) 119)):=by exact bel_
 have hc:=p_settle (opnL l kn).M (cntR l kn) (opnL l kn).P (cntS l kn) a w.heap.size _ (h.acc.now hb) (cnt_sgs hl kn) (by have:=h.sn;omega) (h.sg.now abS hb) (BoxA.new w 119 (accC a))
 refine hc.mono fun e w' hr=>?_
 subst hv
 unfold setE at h0 ⊢
 cases hd:dblR (opnL l kn).M (opnL l kn).P (cntR l kn) with
 | some p =>
   rw [hd] at hr
   exact ⟨hr.1,Below.then_ hb hr.2⟩
 | none =>
   cases ho:narL (opnL l kn).M (cntR l kn) (cntS l kn) (opnL l kn).P with
   | none =>
     rw [hd,ho] at hr
     exact ⟨hr.1,Below.then_ hb hr.2⟩
   | some P' =>
     rw [hd,ho] at h0
     exact absurd rfl h0
theorem p_settle0 (l:Led) (kn:Int) (a:Acc) (w:World) (hl:LedOk l) (h:OpnA w a l kn) (hv:setE l kn=0) :
 Calls Tryz.prog 112 #[.pointer (some ⟨w.heap.size,0,none⟩)] (w.alloc (.cells (accC a) 119)) fun e w'=>∃ A c,e=.returned (.int .i64 0)∧Below w.heap.size w w'∧BoxA w' w.heap.size 119 (accC { a with PA:=A,Pc:=c }) ∧
  AccR w' { a with PA:=A,Pc:=c } (opnL l kn).M (cntR l kn) (setP l kn)∧(setP l kn).length=l.rt.length:=by
 have hb:Below w.heap.size w (w.alloc (.cells (accC a) 119)):=by exact bel_
 have hbox:=BoxA.new w 119 (accC a)
 have hc:=p_settle (opnL l kn).M (cntR l kn) (opnL l kn).P (cntS l kn) a w.heap.size _ (h.acc.now hb) (cnt_sgs hl kn) (by have:=h.sn;omega) (h.sg.now abS hb) hbox
 refine hc.mono fun e w' hr=>?_
 unfold setE at hv
 cases hd:dblR (opnL l kn).M (opnL l kn).P (cntR l kn) with
 | some p=>rw [hd] at hv;cases hv
 | none =>
   cases ho:narL (opnL l kn).M (cntR l kn) (cntS l kn) (opnL l kn).P with
   | none=>rw [hd,ho] at hv;cases hv
   | some P' =>
     rw [hd,ho] at hr
     obtain ⟨rfl,w1,A,c,hb1,ho1,hl1,rfl⟩:=hr
     have hsp:setP l kn=P':=by rw [setP,ho];rfl
     rw [hsp]
     have hB:Below w.heap.size w w1:=Below.then_ hb hb1
     have hB2:=hB.setCell (show w.heap.size≤(⟨w.heap.size,9,none⟩:Addr).block from Nat.le_refl _) (.slice A a.Pn c)
     have ho2:(w1.setCell ⟨w.heap.size,9,none⟩ (.slice A a.Pn c)).ownsRow (w.alloc (.cells (accC a) 119)).heap.size 143 2 (.slice A a.Pn c) a.Pn (folCells P'):=own_keep ho1 fun b hb9=>Below.heap_setCell _ _ _ _ (fun e=>by
      have:=own_le ho1 hb9
      simp only [World.size_alloc] at this
      have e:b=w.heap.size:=e
      omega)
     exact ⟨A,c,rfl,hB2,(hbox.ext hb1).set 9 _,h.acc.settled hB2 ho2 hl1,hl1.trans h.pn⟩
end Go.Proofs.YtoiompoapikkbaaGreat
