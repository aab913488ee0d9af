/- Layer 2 of the texts that LoanBack takes: Bboq. -/
import Derived.Test.YtmcmbicapdcfmaaGreatBblq
import Derived.Test.YtmcmbicapdcfmaaGreatBbfq
set_option linter.unusedVariables false
set_option linter.unusedSimpArgs false
set_option maxHeartbeats 16000000
namespace Go.Proofs.YtmcmbicapdcfmaaGreat
open Go.RowKit Go.Maps
structure One9 (W W':World) (B:Nat) (cs:Array Value):Prop where
 box:BoxA W B 115 cs
 nine:∃ A n c,cs[9]?=some (.slice A n c)
 ten:cs.size=10
 same:∀ b o,¬ (b=B∧o=9)→W'.cell? ⟨b,o,none⟩=W.cell? ⟨b,o,none⟩
 size:W'.heap.size=W.heap.size
 heap:∀ b,b≠B→W'.heap[b]?=W.heap[b]?
section
variable {W W':World} {B:Nat} {cs:Array Value}
theorem One9.of (hb:BoxA W B 115 cs) (h9:∃ A n c,cs[9]?=some (.slice A n c)) (h10:cs.size=10) (u:Value):One9 W (W.setCell ⟨B,9,none⟩ u) B cs :=
 ⟨hb,h9,h10,fun b o h=>World.cell?_setCell_other _ _ _ _ (fun e=>h (by injection e with e1 e2;exact ⟨e1.symm,e2.symm⟩)),by simp,fun b h=>Below.heap_setCell _ _ _ _ h⟩
theorem One9.int (h:One9 W W' B cs) {b o:Nat} {v:Int} (hc:W.cell? ⟨b,o,none⟩=some (.int .i64 v)):W'.cell? ⟨b,o,none⟩=some (.int .i64 v):=by
 by_cases e:b=B∧o=9
 ·obtain ⟨rfl,rfl⟩:=e
  obtain ⟨A,n,c,h9⟩:=h.nine
  rw [h.box.cell,h9] at hc
  cases hc
 ·rw [h.same b o e];exact hc
theorem One9.bool (h:One9 W W' B cs) {b o:Nat} {v:Bool} (hc:W.cell? ⟨b,o,none⟩=some (.bool v)):W'.cell? ⟨b,o,none⟩=some (.bool v):=by
 by_cases e:b=B∧o=9
 ·obtain ⟨rfl,rfl⟩:=e
  obtain ⟨A,n,c,h9⟩:=h.nine
  rw [h.box.cell,h9] at hc
  cases hc
 ·rw [h.same b o e];exact hc
theorem One9.sl (h:One9 W W' B cs) {b o n c:Nat} {A:Option Addr} {v:Int} (hc:W.cell? ⟨b,o,none⟩=some (.slice A n c)) (hd:W.cell? ⟨b,o+1,none⟩=some (.int .i64 v)):W'.cell? ⟨b,o,none⟩=some (.slice A n c):=by
 by_cases e:b=B∧o=9
 ·obtain ⟨rfl,rfl⟩:=e
  rw [h.box.cell,Array.getElem?_eq_none (by rw [h.ten];exact lr_)] at hd
  cases hd
 ·rw [h.same b o e];exact hc
theorem One9.is (h:One9 W W' B cs) {B' n:Nat} {A:Option Addr} {xs:List Int} (hi:Is W B' A n xs):Is W' B' A n xs:=by
 refine ⟨hi.1,fun h0=>?_⟩
 obtain ⟨b,o,e,hb,hc⟩:=hi.2 h0
 refine ⟨b,o,e,hb,fun j u hu=>?_⟩
 have h1:=hc j u hu
 rw [List.getElem?_map] at hu
 obtain ⟨x,_,rfl⟩:=Option.map_eq_some_iff.1 hu
 exact h.int h1
theorem One9.rcs (h:One9 W W' B cs) {B' n:Nat} {A:Option Addr} {R:List Rcp} (hr:Rcs W B' A n R):Rcs W' B' A n R:=by
 refine ⟨hr.1,fun h0=>?_⟩
 obtain ⟨b,o,e,hb,hc⟩:=hr.2 h0
 refine ⟨b,o,e,hb,fun k x hx=>?_⟩
 obtain ⟨A1,n1,c1,⟨a0,a1,a2,a3,a4,a5,a6⟩,hi,hn⟩:=hc k x hx
 exact ⟨A1,n1,c1,⟨h.int a0,h.int a1,h.int a2,h.sl a3 a4,h.int a4,h.int a5,h.int a6⟩,h.is hi,hn⟩
theorem One9.sgs (h:One9 W W' B cs) {B' n:Nat} {A:Option Addr} {S:List Sgt} (hr:Sgs W B' A n S):Sgs W' B' A n S:=by
 refine ⟨hr.1,fun h0=>?_⟩
 obtain ⟨b,o,e,hb,hc⟩:=hr.2 h0
 refine ⟨b,o,e,hb,fun k x hx=>?_⟩
 obtain ⟨a0,a1,a2,a3,a4,a5,a6⟩:=hc k x hx
 exact ⟨h.int a0,h.int a1,h.int a2,h.int a3,h.int a4,h.int a5,h.int a6⟩
theorem One9.fos (h:One9 W W' B cs) {B' n:Nat} {A:Option Addr} {P:List (Int × Int)} (hr:Sq QF 2 W B' A n P):Sq QF 2 W' B' A n P:=by
 refine ⟨hr.1,fun h0=>?_⟩
 obtain ⟨b,o,e,hb,hc⟩:=hr.2 h0
 refine ⟨b,o,e,hb,fun k x hx=>?_⟩
 obtain ⟨a0,a1⟩:=hc k x hx
 exact ⟨h.int a0,h.int a1⟩
theorem One9.bls (h:One9 W W' B cs) {B' n:Nat} {A:Option Addr} {T:List Bool} (hr:Sq QB 1 W B' A n T):Sq QB 1 W' B' A n T:=by
 refine ⟨hr.1,fun h0=>?_⟩
 obtain ⟨b,o,e,hb,hc⟩:=hr.2 h0
 exact ⟨b,o,e,hb,fun k x hx=>h.bool (hc k x hx)⟩
theorem One9.pps (h:One9 W W' B cs) {B' n:Nat} {A:Option Addr} {P:List Ppr} (hr:Pps W B' A n P):Pps W' B' A n P:=by
 refine ⟨hr.1,fun h0=>?_⟩
 obtain ⟨b,o,e,hb,hc⟩:=hr.2 h0
 refine ⟨b,o,e,hb,fun k x hx=>?_⟩
 obtain ⟨a0,a1⟩:=hc k x hx
 exact ⟨h.int a0,h.int a1⟩
theorem One9.rts (h:One9 W W' B cs) {B' n:Nat} {A:Option Addr} {R:List Rtn} (hr:Rts W B' A n R):Rts W' B' A n R:=by
 refine ⟨hr.1,fun h0=>?_⟩
 obtain ⟨b,o,e,hb,hc⟩:=hr.2 h0
 refine ⟨b,o,e,hb,fun k x hx=>?_⟩
 obtain ⟨A1,n1,c1,⟨a0,a1,a2,a3,a4,a5,a6,a7⟩,hi,hn⟩:=hc k x hx
 exact ⟨A1,n1,c1,⟨h.int a0,h.int a1,h.int a2,h.sl a3 a4,h.int a4,h.int a5,h.int a6,h.int a7⟩,h.is hi,hn⟩
theorem One9.led (h:One9 W W' B cs) {x:Lsl} {l:Led} {B':Nat} (hl:LedIn W B' x l):LedIn W' B' x l:=⟨h.pps hl.p,h.rcs hl.r,h.rts hl.t,h.sgs hl.s⟩
theorem One9.acc (h:One9 W W' B cs) {a:Acc} {M:List ((Int × Int) × Nat)} {R:List Rcp} {P:List (Int × Int)} (ha:AccR W a M R P):AccR W' a M R P:=by
 have hbm:a.bm≠B:=fun e=>by
  obtain ⟨es,k,h1,_⟩:=ha.m.1
  rw [e,show W.heap[B]?=_ from h.box] at h1
  cases h1
 refine ⟨ha.m.keep (h.heap _ hbm),?_,?_,ha.nR,ha.cR,ha.okR,ha.nP,ha.aP,ha.mP⟩
 ·rw [h.size];exact h.rcs ha.r
 ·rw [h.size];exact h.fos ha.p
theorem One9.opn (h:One9 W W' B cs) {a:Acc} {l:Led} {kn:Int} (ha:OpnA W a l kn):OpnA W' a l kn:=by
 refine ⟨h.acc ha.acc,?_,?_,ha.pn,ha.tn,ha.sn,ha.cs⟩
 ·rw [h.size];exact h.sgs ha.sg
 ·rw [h.size];exact h.bls ha.tl
theorem One9.box2 (h:One9 W W' B cs) {b:Nat} {t:TypeId} {c:Array Value} (hb:BoxA W b t c) (hne:b≠B):BoxA W' b t c:=(h.heap b hne).trans hb
end
theorem p_settleEN (l:Led) (kn:Int) (a:Acc) (v:Int) (B:Nat) (W:World) (hl:LedOk l) (h:OpnA W a l kn) (hbox:BoxA W B 115 (accC a)) (hv:setE l kn=v) (h0:¬ v=0) :
 Calls Tryz.prog 73 #[.pointer (some ⟨B,0,none⟩)] W fun e w'=>e=.returned (.int .i64 v)∧Below W.heap.size W w':=by
 have hc:=p_settle (opnL l kn).M (cntR l kn) (opnL l kn).P (cntS l kn) a B _ h.acc (cnt_sgs hl kn) (by have:=h.sn;omega) h.sg hbox
 refine hc.mono fun e w' hr=>?_
 subst hv
 unfold setE at h0 ⊢
 cases hd:dblR (opnL l kn).M (opnL l kn).P (cntR l kn) with
 | some p =>
   rw [hd] at hr
   exact hr
 | none =>
   cases ho:narL (opnL l kn).M (cntR l kn) (cntS l kn) (opnL l kn).P with
   | none =>
     rw [hd,ho] at hr
     exact hr
   | some P' =>
     rw [hd,ho] at h0
     exact absurd rfl h0
theorem p_settleE0 (l:Led) (kn:Int) (a:Acc) (B:Nat) (W:World) (hl:LedOk l) (h:OpnA W a l kn) (hbox:BoxA W B 115 (accC a)) (hv:setE l kn=0) :
 Calls Tryz.prog 73 #[.pointer (some ⟨B,0,none⟩)] W fun e w'=>∃ (w1:World) (A:Option Addr) (c:Nat),e=.returned (.int .i64 0)∧Below W.heap.size W w1∧w'=w1.setCell ⟨B,9,none⟩ (.slice A a.Pn c)∧One9 w1 w' B (accC a)∧BoxA w' B 115 (accC { a with PA:=A,Pc:=c }) ∧
  AccR w' { a with PA:=A,Pc:=c } (opnL l kn).M (cntR l kn) (setP l kn):=by
 have hc:=p_settle (opnL l kn).M (cntR l kn) (opnL l kn).P (cntS l kn) a B _ h.acc (cnt_sgs hl kn) (by have:=h.sn;omega) h.sg hbox
 refine hc.mono fun e w' hr=>?_
 unfold setE at hv
 cases hd:dblR (opnL l kn).M (opnL l kn).P (cntR l kn) with
 | some p=>rw [hd] at hv;cases hv
 | none =>
   cases ho:narL (opnL l kn).M (cntR l kn) (cntS l kn) (opnL l kn).P with
   | none=>rw [hd,ho] at hv;cases hv
   | some P' =>
     rw [hd,ho] at hr
     obtain ⟨rfl,w1,A,c,hb1,ho1,hl1,rfl⟩:=hr
     have hsp:setP l kn=P':=by rw [setP,ho];rfl
     rw [hsp]
     have h9:=One9.of (hbox.ext hb1) ⟨_,_,_,rfl⟩ rfl (.slice A a.Pn c)
     have ho2:(w1.setCell ⟨B,9,none⟩ (.slice A a.Pn c)).ownsRow W.heap.size 133 2 (.slice A a.Pn c) a.Pn (folCells P'):=own_keep ho1 fun b hb9=>Below.heap_setCell _ _ _ _ (fun e=>by
      have h1:=own_le ho1 hb9
      have h2:=hbox.lt
      have e:b=B:=e
      omega)
     have ha:=h9.acc (h.acc.now hb1)
     refine ⟨w1,A,c,rfl,hb1,rfl,h9,(hbox.ext hb1).set 9 _,⟨ha.m,ha.r,sq_of_own ho2 hl1,ha.nR,ha.cR,ha.okR,ha.nP,fun e=>?_,ha.mP⟩⟩
     have e:A=none:=e
     subst e
     rcases ho2.2 with ⟨h1,_⟩ | ⟨g,cap,cur,h1,_⟩
     ·injection h1
     ·cases h1
abbrev zAcc:Array Value:=#[.slice none 0 0,.slice none 0 0,.slice none 0 0,.slice none 0 0,.int .i64 0,.slice none 0 0,.slice none 0 0,.map none,.slice none 0 0,.slice none 0 0]
structure OneZ (W W':World) (B:Nat):Prop where
 box:BoxA W B 115 zAcc
 size:W'.heap.size=W.heap.size
 heap:∀ b,b≠B→W'.heap[b]?=W.heap[b]?
theorem zAcc_int {o:Nat} {v:Int} (h:zAcc[o]?=some (.int .i64 v)):o=4∧v=0:=by
 match o,h with
 | 4,h=>cases h;exact ⟨rfl,rfl⟩
 | 0,h=>cases h
 | 1,h=>cases h
 | 2,h=>cases h
 | 3,h=>cases h
 | 5,h=>cases h
 | 6,h=>cases h
 | 7,h=>cases h
 | 8,h=>cases h
 | 9,h=>cases h
 | n+10,h=>simp at h
theorem zAcc_bool {o:Nat} {v:Bool} (h:zAcc[o]?=some (.bool v)):False:=by
 match o,h with
 | 4,h=>cases h
 | 0,h=>cases h
 | 1,h=>cases h
 | 2,h=>cases h
 | 3,h=>cases h
 | 5,h=>cases h
 | 6,h=>cases h
 | 7,h=>cases h
 | 8,h=>cases h
 | 9,h=>cases h
 | n+10,h=>simp at h
section
variable {W W':World} {B:Nat}
theorem OneZ.cell (h:OneZ W W' B) {b:Nat} (hb:b≠B) (o:Nat):W'.cell? ⟨b,o,none⟩=W.cell? ⟨b,o,none⟩:=by simp [World.cell?,h.heap b hb]
theorem OneZ.two (h:OneZ W W' B) {b o:Nat} {u v:Int} (h0:W.cell? ⟨b,o,none⟩=some (.int .i64 u)) (h1:W.cell? ⟨b,o+1,none⟩=some (.int .i64 v)):b≠B:=fun e=>by
 subst e
 rw [h.box.cell] at h0 h1
 have:=(zAcc_int h0).1
 have:=(zAcc_int h1).1
 omega
theorem OneZ.pos (h:OneZ W W' B) {b o:Nat} {u:Int} (h0:W.cell? ⟨b,o,none⟩=some (.int .i64 u)) (hu:u≠0):b≠B:=fun e=>by
 subst e
 rw [h.box.cell] at h0
 exact hu (zAcc_int h0).2
theorem OneZ.is (h:OneZ W W' B) {B' n:Nat} {A:Option Addr} {xs:List Int} (hi:Is W B' A n xs) (hx:∀ x∈xs,x≠0):Is W' B' A n xs:=by
 refine ⟨hi.1,fun h0=>?_⟩
 obtain ⟨b,o,e,hb,hc⟩:=hi.2 h0
 refine ⟨b,o,e,hb,fun j u hu=>?_⟩
 have h1:=hc j u hu
 rw [List.getElem?_map] at hu
 obtain ⟨x,hx1,rfl⟩:=Option.map_eq_some_iff.1 hu
 rw [h.cell (h.pos h1 (hx x (List.mem_of_getElem? hx1)))]
 exact h1
theorem OneZ.rcs (h:OneZ W W' B) {B' n:Nat} {A:Option Addr} {R:List Rcp} (hr:Rcs W B' A n R) (hp:∀ r∈R,∀ x∈r.lv,x≠0):Rcs W' B' A n R:=by
 refine ⟨hr.1,fun h0=>?_⟩
 obtain ⟨b,o,e,hb,hc⟩:=hr.2 h0
 refine ⟨b,o,e,hb,fun k x hx=>?_⟩
 obtain ⟨A1,n1,c1,⟨a0,a1,a2,a3,a4,a5,a6⟩,hi,hn⟩:=hc k x hx
 have hne:=h.two a0 a1
 exact ⟨A1,n1,c1,⟨(h.cell hne _).trans a0,(h.cell hne _).trans a1,(h.cell hne _).trans a2,(h.cell hne _).trans a3,(h.cell hne _).trans a4,(h.cell hne _).trans a5,(h.cell hne _).trans a6⟩,h.is hi (hp x (List.mem_of_getElem? hx)),hn⟩
theorem OneZ.sgs (h:OneZ W W' B) {B' n:Nat} {A:Option Addr} {S:List Sgt} (hr:Sgs W B' A n S):Sgs W' B' A n S:=by
 refine ⟨hr.1,fun h0=>?_⟩
 obtain ⟨b,o,e,hb,hc⟩:=hr.2 h0
 refine ⟨b,o,e,hb,fun k x hx=>?_⟩
 obtain ⟨a0,a1,a2,a3,a4,a5,a6⟩:=hc k x hx
 have hne:=h.two a0 a1
 exact ⟨(h.cell hne _).trans a0,(h.cell hne _).trans a1,(h.cell hne _).trans a2,(h.cell hne _).trans a3,(h.cell hne _).trans a4,(h.cell hne _).trans a5,(h.cell hne _).trans a6⟩
theorem OneZ.fos (h:OneZ W W' B) {B' n:Nat} {A:Option Addr} {P:List (Int × Int)} (hr:Sq QF 2 W B' A n P):Sq QF 2 W' B' A n P:=by
 refine ⟨hr.1,fun h0=>?_⟩
 obtain ⟨b,o,e,hb,hc⟩:=hr.2 h0
 refine ⟨b,o,e,hb,fun k x hx=>?_⟩
 obtain ⟨a0,a1⟩:=hc k x hx
 have hne:=h.two a0 a1
 exact ⟨(h.cell hne _).trans a0,(h.cell hne _).trans a1⟩
theorem OneZ.bls (h:OneZ W W' B) {B' n:Nat} {A:Option Addr} {T:List Bool} (hr:Sq QB 1 W B' A n T):Sq QB 1 W' B' A n T:=by
 refine ⟨hr.1,fun h0=>?_⟩
 obtain ⟨b,o,e,hb,hc⟩:=hr.2 h0
 refine ⟨b,o,e,hb,fun k x hx=>?_⟩
 have h1:W.cell? ⟨b,o+k*1,none⟩=some (.bool x):=hc k x hx
 have hne:b≠B:=fun e=>by
  subst e
  rw [h.box.cell] at h1
  exact zAcc_bool h1
 exact (h.cell hne _).trans h1
theorem OneZ.opn (h:OneZ W W' B) {a:Acc} {l:Led} {kn:Int} (ha:OpnA W a l kn) (hp:∀ r∈l.rc,∀ x∈r.lv,x≠0):OpnA W' a l kn:=by
 have hbm:a.bm≠B:=fun e=>by
  obtain ⟨es,k,h1,_⟩:=ha.acc.m.1
  rw [e,show W.heap[B]?=_ from h.box] at h1
  cases h1
 have hR:∀ r∈cntR l kn,∀ x∈r.lv,x≠0:=fun r hr=>hp r (List.mem_filter.1 hr).1
 refine ⟨⟨ha.acc.m.keep (h.heap _ hbm),?_,?_,ha.acc.nR,ha.acc.cR,ha.acc.okR,ha.acc.nP,ha.acc.aP,ha.acc.mP⟩,?_,?_,ha.pn,ha.tn,ha.sn,ha.cs⟩
 ·rw [h.size];exact h.rcs ha.acc.r hR
 ·rw [h.size];exact h.fos ha.acc.p
 ·rw [h.size];exact h.sgs ha.sg
 ·rw [h.size];exact h.bls ha.tl
end
theorem led_pos {l:Led} (h:ledB l=true):∀ r∈l.rc,∀ x∈r.lv,x≠0:=by
 rw [ledB_ref] at h
 simp only [Bool.and_eq_true] at h
 intro r hr x hx
 have h1:=val_all h.2.1 r hr
 simp only [rcOk,Rcp.okB,leavesB,Bool.and_eq_true] at h1
 have h2:=val_all h1.1.2.2.2.1.2 x hx
 simp only [leafB,withinB,Bool.and_eq_true,decide_eq_true_eq] at h2
 omega
theorem exc_pos {l:Led} {s:Int} (h:∀ r∈l.rc,∀ x∈r.lv,x≠0):∀ r∈(excL l s).rc,∀ x∈r.lv,x≠0:=fun r hr=>h r (List.mem_filter.1 hr).1
end Go.Proofs.YtmcmbicapdcfmaaGreat
