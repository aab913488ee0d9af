/- Layer 2 of the texts that LoanBack takes: Bbjq. -/
import Derived.Test.YtmcmbicapdcfmaaGreatBbgq
import Derived.Test.YtmcmbicapdcfmaaGreatBbiq
set_option linter.unusedVariables false
set_option linter.unusedSimpArgs false
set_option maxHeartbeats 16000000
namespace Go.Proofs.YtmcmbicapdcfmaaGreat
open Go.RowKit Go.Maps
structure SnL (w W:World) (LC SC OC:Array Value) (qo:Nat):Prop where
 s:SnS w W LC SC
 bO:BoxA W qo 32 OC
 zq:w.heap.size+3≤qo
theorem SnL.ext {w W W':World} {LC SC OC:Array Value} {qo:Nat} (h:SnL w W LC SC OC qo) (hb:Below W.heap.size W W'):SnL w W' LC SC OC qo:=⟨h.s.ext hb,h.bO.ext hb,h.zq⟩
theorem SnL.grow {w W W':World} {LC SC OC:Array Value} {qo:Nat} (h:SnL w W LC SC OC qo) {base s n:Nat} {t:TypeId} {v:Value} {xs:List Value} (ho:W.ownsRow base t s v n xs) (ht:32≠t) (hbase:w.heap.size+3≤base) (hg:W.grownBy W' v.ownBlock):SnL w W' LC SC OC qo :=
 ⟨h.s.grow hg fun b hb=>Nat.le_trans hbase (own_le ho hb),h.bO.kept hg (own_ne ho h.bO ht),h.zq⟩
theorem SnL.set {w W:World} {LC SC OC:Array Value} {qo:Nat} (h:SnL w W LC SC OC qo) (o:Nat) (u:Value):SnL w (W.setCell ⟨qo,o,none⟩ u) LC SC (OC.setIfInBounds o u) qo:=by
 have hz:=h.zq
 exact ⟨h.s.grow (grown_setCell W qo o u) (fun b e=>by cases e;omega),h.bO.set o u,hz⟩
theorem S1.grownR {b1 b2:Nat} {row:Option Nat} {c1 c2:Array Value} {V V':World} (hg:V.grownBy V' row) (h:S1 b1 b2 c1 c2 V) (n1:some b1≠row) (n2:some b2≠row):S1 b1 b2 c1 c2 V':=by
 obtain ⟨h1,h2,z1,z2⟩:=h
 have e1:=hg.block b1 z1 n1
 have e2:=hg.block b2 z2 n2
 have hs:=hg.size
 refine ⟨fun o=>?_,fun o=>?_,by omega,by omega⟩
 ·rw [← h1 o];simp [World.cell?,e1]
 ·rw [← h2 o];simp [World.cell?,e2]
def SZ7 (b1 b2:Nat) (c1 c2:Array Value) (b o:Nat) (z:Sgt) (V:World):Prop:=S1 b1 b2 c1 c2 V∧b<V.heap.size∧V.cell? ⟨b,o,none⟩=some (.int .i64 z.src)∧V.cell? ⟨b,o+1,none⟩=some (.int .i64 z.per)∧V.cell? ⟨b,o+2,none⟩=some (.int .i64 z.pap)∧V.cell? ⟨b,o+3,none⟩=some (.int .i64 z.leaf)∧V.cell? ⟨b,o+4,none⟩=some (.int .i64 z.day)∧V.cell? ⟨b,o+5,none⟩=some (.int .i64 z.kn)∧V.cell? ⟨b,o+6,none⟩=some (.int .i64 z.un)
theorem SZ7.ext {b1 b2 b o:Nat} {c1 c2:Array Value} {z:Sgt} {V V':World} (hb:Below V.heap.size V V') (h:SZ7 b1 b2 c1 c2 b o z V):SZ7 b1 b2 c1 c2 b o z V':=by
 obtain ⟨h0,h1,q0,q1,q2,q3,q4,q5,q6⟩:=h
 have hs:=hb.size
 have c:∀ j,V'.cell? ⟨b,j,none⟩=V.cell? ⟨b,j,none⟩:=fun j=>hb.cell (p:=⟨b,j,none⟩) h1
 exact ⟨S1.ext hb h0,by omega,(c _).trans q0,(c _).trans q1,(c _).trans q2,(c _).trans q3,(c _).trans q4,(c _).trans q5,(c _).trans q6⟩
theorem SZ7.grownR {b1 b2 b o:Nat} {row:Option Nat} {c1 c2:Array Value} {z:Sgt} {V V':World} (hg:V.grownBy V' row) (h:SZ7 b1 b2 c1 c2 b o z V) (n1:some b1≠row) (n2:some b2≠row) (n3:some b≠row):SZ7 b1 b2 c1 c2 b o z V':=by
 obtain ⟨h0,h1,q0,q1,q2,q3,q4,q5,q6⟩:=h
 have hs:=hg.size
 have e3:=hg.block b h1 n3
 have c:∀ j,V'.cell? ⟨b,j,none⟩=V.cell? ⟨b,j,none⟩:=fun j=>by simp [World.cell?,e3]
 exact ⟨S1.grownR hg h0 n1 n2,by omega,(c _).trans q0,(c _).trans q1,(c _).trans q2,(c _).trans q3,(c _).trans q4,(c _).trans q5,(c _).trans q6⟩
def firstP (p:Rcp→Rcp→Bool):List Rcp→Option (Rcp × Rcp)
 | []=>none
 | x :: l=>match l.find? (p x) with
   | some y=>some (x,y)
   | none=>firstP p l
theorem dblR_first (M:List ((Int × Int) × Nat)) (P:List (Int × Int)):∀ l,dblR M P l=firstP (dblB M P) l
 | []=>rfl
 | x :: l=>by
   rw [dblR,firstP,dblR_first M P l]
   cases l.find? (dblB M P x) <;> rfl
theorem find_congr {α:Type} {p q:α→Bool}:∀ {l:List α},(∀ x∈l,p x=q x)→l.find? p=l.find? q
 | [],_=>rfl
 | x :: l,h=>by
   rw [List.find?_cons,List.find?_cons,h x (List.mem_cons_self ..),find_congr fun y hy=>h y (List.mem_cons_of_mem _ hy)]
theorem firstP_congr {p q:Rcp→Rcp→Bool}:∀ {l:List Rcp},(∀ x∈l,∀ y∈l,p x y=q x y)→firstP p l=firstP q l
 | [],_=>rfl
 | x :: l,h=>by
   rw [firstP,firstP,find_congr fun y hy=>h x (List.mem_cons_self ..) y (List.mem_cons_of_mem _ hy),firstP_congr fun a ha b hb=>h a (List.mem_cons_of_mem _ ha) b (List.mem_cons_of_mem _ hb)]
theorem firstP_filter {p:Rcp→Rcp→Bool} {q:Rcp→Bool} (h:∀ x y,p x y=true→q x=true∧q y=true):∀ l,firstP p (l.filter q)=firstP p l
 | []=>rfl
 | x :: l=>by
   have ih:=firstP_filter h l
   have hf:(l.filter q).find? (p x)=l.find? (p x):=by
    rw [List.find?_filter]
    congr 1
    funext y
    cases hp:p x y with
    | false=>simp
    | true=>simp [(h x y hp).2]
   cases hq:q x with
   | true=>rw [List.filter_cons_of_pos (by simpa using hq),firstP,firstP,hf,ih]
   | false =>
     have hn:l.find? (p x)=none:=by
      rw [List.find?_eq_none]
      intro y _ hp
      have:=(h x y hp).1
      rw [hq] at this
      cases this
     rw [List.filter_cons_of_neg (by simp [hq]),ih,firstP,hn]
theorem refD_cnt {l:Led} {T:List Bool} {kn:Int} {x y:Rcp} (h:refD l T kn x y=true):countsB x.kn x.un kn=true∧countsB y.kn y.un kn=true:=by
 have hr:∀ (a b:Rcp),a.lv.any (refOut l T kn a b)=true→countsB a.kn a.un kn=true∧countsB b.kn b.un kn=true:=fun a b h=>by
  obtain ⟨f,_,hf⟩:=List.any_eq_true.1 h
  simp only [refOut,Bool.and_eq_true] at hf
  exact ⟨hf.1.1,hf.2.1.1⟩
 rw [refD] at h
 split at h
 ·exact (hr y x h).symm
 ·exact hr x y h
theorem find_self {l:List Rcp} (hn:(l.map Rcp.src).Nodup) {u:Rcp} (hu:u∈l):findR l u.src=some u:=by
 rw [findR]
 induction l with
 | nil=>cases hu
 | cons x l ih =>
   rw [List.map_cons,List.nodup_cons] at hn
   rw [List.find?_cons]
   rcases List.mem_cons.1 hu with rfl | hu
   ·simp
   ·have hne:(x.src == u.src)=false:=by
     rw [beq_eq_false_iff_ne]
     intro he
     exact hn.1 (he ▸ List.mem_map.2 ⟨u,hu,rfl⟩)
    rw [hne]
    exact ih hn.2 hu
theorem cnt_self {l:Led} {kn:Int} (h:ledB l=true) {u:Rcp} (hu:u∈cntR l kn):findR (cntR l kn) u.src=some u:=by
 refine find_self ?_ hu
 simp only [ledB,Bool.and_eq_true,decide_eq_true_eq] at h
 have hn:(l.rc.map Rcp.src).Nodup:=by
  have h5:=h.2.2.2.2.1
  rw [srcL] at h5
  simp only [List.nodup_append] at h5
  first | exact h5.1 | exact h5.1.1
 exact hn.sublist ((List.filter_sublist ..).map _)
theorem dbl_first {l:Led} {kn:Int} (h:ledB l=true):dblR (opnL l kn).M (opnL l kn).P (cntR l kn)=firstP (refD l (tellK l kn l.rt.length) kn) l.rc:=by
 rw [dblR_first,← opn_tell,← firstP_filter (q:=fun r=>countsB r.kn r.un kn) (fun x y h=>refD_cnt h) l.rc]
 refine firstP_congr fun x hx y hy=>?_
 exact dbl_ref l kn x y (by simpa using (List.mem_filter.1 hx).2) (by simpa using (List.mem_filter.1 hy).2) (cnt_self h hx) (cnt_self h hy)
theorem r_last_v (l:Led) (v:Vw) (pap leaf day k:Int) (w:World) (hn:v.x.rn≤1000000) (hd:LedIn w w.heap.size v.x l) (h:lastI (lastK v.kn pap leaf day l.rc l.rc.length)=k) :
 Calls Tryz.prog 104 #[vwV v,.agg #[.int .i64 pap,.int .i64 leaf],.int .i64 day] w fun e w'=>e=.returned (.int .i64 k)∧Below w.heap.size w w':=h ▸ r_last l v pap leaf day w hn hd
theorem r_leavesOf_v (pp:List Ppr) (x:Lsl) (n v:Int) (w:World) (hn:x.pn≤9223372036854775807) (hd:Pps w w.heap.size x.pA x.pn pp) (h:lvOf pp n=v) :
 Calls Tryz.prog 78 #[.agg #[.slice x.pA x.pn x.pc,.slice x.rA x.rn x.rc,.slice x.tA x.tn x.tc,.slice x.sA x.sn x.sc],.int .i64 n] w fun e w'=>e=.returned (.int .i64 v)∧Below w.heap.size w w':=h ▸ r_leavesOf pp x n w hn hd
def attX (l:Led) (src kn:Int) (last:Bool):List Int × Int:=if retE l src kn=0 then (match l.rt.findIdx? (fun t=>t.src == src) with
 | none=>((setP l kn).map Prod.fst,0)
 | some i=>(if last=true then ((setP l kn).map Prod.fst).set i ((setP l kn).getD i (0,0)).2 else (setP l kn).map Prod.fst,0)) else ([],retE l src kn)
def telK (T:List Bool) (rt:List Rtn) (k:Nat):List Int:=(((List.zip T rt).take k).filter (fun p=>p.1)).map (fun p=>p.2.src)
def telX (l:Led) (kn:Int):List Int × Int:=if preE l [kn]=0 then (telK (opnL l kn).T l.rt l.rt.length,0) else ([],preE l [kn])
end Go.Proofs.YtmcmbicapdcfmaaGreat
