/- Layer 2 of the texts that LoanBack takes: Bbxq. -/
import Derived.Test.YtmcmbicapdcfmaaGreatBbwq
set_option linter.unusedVariables false
set_option linter.unusedSimpArgs false
set_option maxHeartbeats 16000000
namespace Go.Proofs.YtmcmbicapdcfmaaGreat
open Go.RowKit Go.Maps
structure HdI (w wv W:World) (q:Nat) (OC:Array Value) (nR:Nat) (vR:Value) (RV:List Rv) (nT:Nat) (vT:Value) (TV:List Tv) (nD:Nat) (vD:Value) (DL:List Int):Prop where
 wo:WoI w wv W q OC (nR,vR,RV.flatMap rvC) (nT,vT,TV.flatMap tvC) (0,.slice none 0 0,[])
 d:W.ownsRow wv.heap.size 3 1 vD nD (intL DL)
section
variable {w wv wr w5 w6:World} {q:Nat} {OC:Array Value} {nR:Nat} {vR:Value} {RV:List Rv} {nT:Nat} {vT:Value} {TV:List Tv} {nD:Nat} {vD:Value} {DL:List Int}
theorem HdI.ext (h:HdI w wv wr q OC nR vR RV nT vT TV nD vD DL) (h5:Below wr.heap.size wr w5):HdI w wv w5 q OC nR vR RV nT vT TV nD vD DL:=⟨h.wo.ext h5,own_ex h.d h5⟩
theorem HdI.appR (h:HdI w wv wr q OC nR vR RV nT vT TV nD vD DL) (hq:w.heap.size≤q∧q<wv.heap.size) (hwv:w.heap.size≤wv.heap.size) (h5:Below wr.heap.size wr w5) {v2:Value} {n2:Nat} {z:Rv} (ho6:w6.ownsRow wv.heap.size 79 7 v2 n2 (RV.flatMap rvC ++ rvC z)) (hg6:w5.grownBy w6 vR.ownBlock) (u:Value) :
 HdI w wv (w6.setCell ⟨q,1,none⟩ u) q (OC.setIfInBounds 1 u) n2 v2 (RV ++ [z]) nT vT TV nD vD DL:=by
 have h5o:=own_ex h.wo.r h5
 have hbO:BoxA w6 q 32 OC:=(h.wo.bO.ext h5).kept hg6 (own_ne h5o (h.wo.bO.ext h5) (by decide))
 have hd6:w6.ownsRow wv.heap.size 3 1 vD nD (intL DL):=own_other (own_ex h.d h5) h5o (by decide) hg6
 refine ⟨?_,hd6.kept (grown_setCell w6 q 1 u) (.inr fun e=>own_ne hd6 hbO (by decide) e.symm)⟩
 rw [List.flatMap_append,List.flatMap_cons,List.flatMap_nil,List.append_nil]
 exact h.wo.appR hq hwv h5 ho6 hg6 u
theorem HdI.appT (h:HdI w wv wr q OC nR vR RV nT vT TV nD vD DL) (hq:w.heap.size≤q∧q<wv.heap.size) (hwv:w.heap.size≤wv.heap.size) (h5:Below wr.heap.size wr w5) {v2:Value} {n2:Nat} {z:Tv} (ho6:w6.ownsRow wv.heap.size 75 8 v2 n2 (TV.flatMap tvC ++ tvC z)) (hg6:w5.grownBy w6 vT.ownBlock) (u:Value) :
 HdI w wv (w6.setCell ⟨q,2,none⟩ u) q (OC.setIfInBounds 2 u) nR vR RV n2 v2 (TV ++ [z]) nD vD DL:=by
 have h5o:=own_ex h.wo.t h5
 have hbO:BoxA w6 q 32 OC:=(h.wo.bO.ext h5).kept hg6 (own_ne h5o (h.wo.bO.ext h5) (by decide))
 have hd6:w6.ownsRow wv.heap.size 3 1 vD nD (intL DL):=own_other (own_ex h.d h5) h5o (by decide) hg6
 refine ⟨?_,hd6.kept (grown_setCell w6 q 2 u) (.inr fun e=>own_ne hd6 hbO (by decide) e.symm)⟩
 rw [List.flatMap_append,List.flatMap_cons,List.flatMap_nil,List.append_nil]
 exact h.wo.appT hq hwv h5 ho6 hg6 u
theorem HdI.appD (h:HdI w wv wr q OC nR vR RV nT vT TV nD vD DL) (hwv:w.heap.size≤wv.heap.size) (h5:Below wr.heap.size wr w5) {v2:Value} {n2:Nat} {y:Int} (ho6:w6.ownsRow wv.heap.size 3 1 v2 n2 (intL DL ++ [.int .i64 y])) (hg6:w5.grownBy w6 vD.ownBlock) :
 HdI w wv w6 q OC nR vR RV nT vT TV n2 v2 (DL ++ [y]):=by
 have h5o:=own_ex h.d h5
 have hbO:BoxA w6 q 32 OC:=(h.wo.bO.ext h5).kept hg6 (own_ne h5o (h.wo.bO.ext h5) (by decide))
 have hsz:=h.wo.sz
 have hsz5:=h5.size
 refine ⟨⟨?_,fun k hk hne=>?_,Nat.le_trans h.wo.sz (Nat.le_trans h5.size hg6.size),hbO,own_other (own_ex h.wo.r h5) h5o (by decide) hg6,own_other (own_ex h.wo.t h5) h5o (by decide) hg6,own_other (own_ex h.wo.s h5) h5o (by decide) hg6⟩,by simpa [intL] using ho6⟩
 ·have h1:Below w.heap.size w w5:=h.wo.bel.trans (h5.mono h.wo.bel.size)
  exact h1.grown hg6 h1.size fun k ek=>Nat.le_trans hwv (own_le h5o ek)
 ·rw [hg6.block k (by omega) (fun e=>by have:=own_le h5o e.symm;omega),h5.block k (by omega)]
  exact h.wo.keep k hk hne
theorem HdI.ledT (h:HdI w wv wr q OC nR vR RV nT vT TV nD vD DL) {pA rA tA:Option Addr} {pn pc rn rc tc:Nat} {l:Led} {XT:List Tv} (hT:vT=.slice tA nT tc) (hp:Pps w w.heap.size pA pn l.pp) (hR:Rcs w w.heap.size rA rn l.rc) (hs:∀ z∈TV,z∈XT) (hX:∀ v∈XT,Is w w.heap.size v.A v.n v.r.lv∧v.n≤v.c∧v.c≤maxLen) :
 LedIn wr wr.heap.size ⟨pA,pn,pc,rA,rn,rc,tA,nT,tc,none,0,0⟩ (allL l TV):=by
 subst hT
 refine ⟨hp.now abP h.wo.bel,hR.now abR h.wo.bel,rts_of ?_ (own_len h.wo.t (fun _=>rfl) (by decide)) (fun v hv=>?_),⟨rfl,fun h=>absurd h (Nat.lt_irrefl 0)⟩⟩
 ·exact Rd.of_own h.wo.t
 ·obtain ⟨h1,h2⟩:=hX v (hs v hv)
  exact ⟨h1.now h.wo.bel,h2⟩
theorem HdI.ledRT (h:HdI w wv wr q OC nR vR RV nT vT TV nD vD DL) {pA rA tA:Option Addr} {pn pc rc tc:Nat} {pp:List Ppr} {XR:List Rv} {XT:List Tv} (hRv:vR=.slice rA nR rc) (hT:vT=.slice tA nT tc) (hp:Pps w w.heap.size pA pn pp) (hr:∀ z∈RV,z∈XR) (hs:∀ z∈TV,z∈XT) (hR:∀ v∈XR,Is w w.heap.size v.A v.n v.r.lv∧v.n≤v.c∧v.c≤maxLen) (hX:∀ v∈XT,Is w w.heap.size v.A v.n v.r.lv∧v.n≤v.c∧v.c≤maxLen) :
 LedIn wr wr.heap.size ⟨pA,pn,pc,rA,nR,rc,tA,nT,tc,none,0,0⟩ ⟨pp,RV.map Rv.r,TV.map Tv.r,[]⟩:=by
 subst hRv hT
 refine ⟨hp.now abP h.wo.bel,rcs_of (sq_rv ?_ (own_len h.wo.r (fun _=>rfl) (by decide)) fun v hv=>?_),rts_of ?_ (own_len h.wo.t (fun _=>rfl) (by decide)) (fun v hv=>?_),⟨rfl,fun h=>absurd h (Nat.lt_irrefl 0)⟩⟩
 ·exact Rd.of_own h.wo.r
 ·obtain ⟨h1,h2⟩:=hR v (hr v hv)
  exact ⟨h1.now h.wo.bel,h2⟩
 ·exact Rd.of_own h.wo.t
 ·obtain ⟨h1,h2⟩:=hX v (hs v hv)
  exact ⟨h1.now h.wo.bel,h2⟩
theorem HdI.days (h:HdI w wv wr q OC nR vR RV nT vT TV nD vD DL) {A:Option Addr} {c:Nat} (hD:vD=.slice A nD c):Is wr wr.heap.size A nD DL:=by
 subst hD
 have:=Rd.of_own h.d
 exact this
theorem HdI.start (hb:Below w.heap.size w wv) (hO:BoxA wv q 32 OC):HdI w wv wv q OC 0 (.slice none 0 0) [] 0 (.slice none 0 0) [] 0 (.slice none 0 0) [] :=
 ⟨⟨hb,fun _ _ _=>rfl,lr_,hO,World.ownsRow_nil _ _ _ _,World.ownsRow_nil _ _ _ _,World.ownsRow_nil _ _ _ _⟩,World.ownsRow_nil _ _ _ _⟩
end
theorem all_ok {d:Int} {l:Led} {days:List Int} (hM:MkOk d l days) {XT TV:List Tv} (hX:XT.map Tv.r=l.rt) (hs:TV.Sublist XT):LedOk (allL l TV):=by
 have h:=led_ok hM.led
 have hsT:(TV.map Tv.r).Sublist l.rt:=by rw [← hX];exact hs.map Tv.r
 exact ⟨h.pn,h.rn,Nat.le_trans hsT.length_le h.tn,by simp [allL],h.pp,h.rc,fun t ht=>h.rt t (hsT.subset ht),fun s hs=>by cases hs⟩
theorem out_ok {d:Int} {l:Led} {days:List Int} (hM:MkOk d l days) {XR RV:List Rv} {XT TV:List Tv} (hXR:XR.map Rv.r=l.rc) (hr:RV.Sublist XR) (hX:XT.map Tv.r=l.rt) (hs:TV.Sublist XT):LedOk ⟨l.pp,RV.map Rv.r,TV.map Tv.r,[]⟩:=by
 have h:=led_ok hM.led
 have hsT:(TV.map Tv.r).Sublist l.rt:=by rw [← hX];exact hs.map Tv.r
 have hsR:(RV.map Rv.r).Sublist l.rc:=by rw [← hXR];exact hr.map Rv.r
 exact ⟨h.pn,Nat.le_trans hsR.length_le h.rn,Nat.le_trans hsT.length_le h.tn,by simp,h.pp,fun r hr=>h.rc r (hsR.subset hr),fun t ht=>h.rt t (hsT.subset ht),fun s hs=>by cases hs⟩
def RetHon (w:World) (e:Ending) (w':World):Prop:=∃ (y:Lsl) (l:Led) (days:List Int) (D:Option Addr) (dc:Nat),
 e=.returned (.tuple #[.agg #[.slice y.pA y.pn y.pc,.slice y.rA y.rn y.rc,.slice y.tA y.tn y.tc,.slice y.sA y.sn y.sc],.slice D days.length dc])∧Below w.heap.size w w'∧y.fit∧LedIn w' w'.heap.size y l∧HnOk l days∧Is w' w'.heap.size D days.length days∧days.length≤dc∧dc≤maxLen
theorem who_four {l:Led} {kn day pap leaf:Int} {D:List Int} (h:∀ r∈l.rc,0≤r.bor∧r.bor≤4):0≤whoF l kn day D pap leaf∧whoF l kn day D pap leaf≤4:=by
 have g:∀ (rs:List Rcp) (s:Int × Int × Int),(∀ r∈rs,0≤r.bor∧r.bor≤4)→0≤s.1∧s.1≤4→0≤(rs.foldl (stayStep (opnL l kn).M leaf day) s).1∧(rs.foldl (stayStep (opnL l kn).M leaf day) s).1≤4:=by
  intro rs
  induction rs with
  | nil=>intro s _ h;exact h
  | cons r rs ih =>
    intro s hr hs
    refine ih _ (fun q hq=>hr q (List.mem_cons_of_mem _ hq)) ?_
    unfold stayStep
    split
    ·exact hs
    ·exact hr r (List.mem_cons_self ..)
 have h2:0≤(stayP (opnL l kn).M (cntR l kn) pap leaf day).1∧(stayP (opnL l kn).M (cntR l kn) pap leaf day).1≤4:=by
  refine g _ _ (fun r hr=>h r (List.mem_filter.1 (List.mem_filter.1 hr).1).1) (by decide)
 unfold whoF
 split
 ·exact h2
 ·decide
theorem mk_bor {d:Int} {l:Led} {days:List Int} (h:MkOk d l days) {r:Rcp} (hr:r∈l.rc):0≤r.bor∧r.bor≤4:=by
 obtain ⟨j,-,hj⟩:=mk_rc h hr
 have:=hj.bor
 omega
theorem hon_later {w wv W4 W:World} {q:Nat} {OC:Array Value} {nR nT nD:Nat} {vR vT vD:Value} {RV:List Rv} {TV:List Tv} {DL:List Int} (h:HdI w wv W4 q OC nR vR RV nT vT TV nD vD DL) (hO:BoxA W4 q 32 OC) (hk:∀ k,k<W4.heap.size→k≠q→W.heap[k]?=W4.heap[k]?)
 {pA rA tA A:Option Addr} {pn pc rc tc c:Nat} {pp:List Ppr} {XR:List Rv} {XT:List Tv} (hRv:vR=.slice rA nR rc) (hT:vT=.slice tA nT tc) (hD:vD=.slice A nD c) (hp:Pps W W.heap.size pA pn pp) (hr:∀ z∈RV,z∈XR) (hs:∀ z∈TV,z∈XT) (hR:∀ v∈XR,Is W W.heap.size v.A v.n v.r.lv∧v.n≤v.c∧v.c≤maxLen) (hX:∀ v∈XT,Is W W.heap.size v.A v.n v.r.lv∧v.n≤v.c∧v.c≤maxLen) :
 LedIn W W.heap.size ⟨pA,pn,pc,rA,nR,rc,tA,nT,tc,none,0,0⟩ ⟨pp,RV.map Rv.r,TV.map Tv.r,[]⟩∧Is W W.heap.size A nD DL:=by
 subst hRv hT hD
 have g:∀ {t:TypeId} {s n:Nat} {v:Value} {xs:List Value},W4.ownsRow wv.heap.size t s v n xs→32≠t→W.ownsRow wv.heap.size t s v n xs:=fun h ht=>own_keep h fun b hb=>by
  obtain ⟨cur,hh⟩:=own_block h hb
  exact hk b (block_lt hh) (fun e=>own_ne h hO ht (by rw [hb,e]))
 have ho1:=g h.wo.r (by decide)
 have ho2:=g h.wo.t (by decide)
 have ho3:=g h.d (by decide)
 refine ⟨⟨hp,rcs_of (sq_rv ?_ (own_len ho1 (fun _=>rfl) (by decide)) fun v hv=>hR v (hr v hv)),rts_of ?_ (own_len ho2 (fun _=>rfl) (by decide)) (fun v hv=>hX v (hs v hv)),⟨rfl,fun h=>absurd h (Nat.lt_irrefl 0)⟩⟩,?_⟩
 ·exact Rd.of_own ho1
 ·exact Rd.of_own ho2
 ·have:=Rd.of_own ho3
  exact this
section
variable {W W':World} {B B' q:Nat}
theorem Sq.far {α:Type} {Q:World→Nat→Nat→Nat→α→Prop} {s n:Nat} {A:Option Addr} {xs:List α} (h:Sq Q s W B A n xs) (hi:∀ b o x,Q W B b o x→b≠q) (ht:∀ b o x,b<B→b≠q→Q W B b o x→Q W' B' b o x) (hB:B≤B'):Sq Q s W' B' A n xs:=by
 refine ⟨h.1,fun h0=>?_⟩
 obtain ⟨b,o,e,hb,hc⟩:=h.2 h0
 have hx:xs[0]?=some (xs[0]'(by rw [h.1];exact h0)):=List.getElem?_eq_getElem _
 have hne:=hi b _ _ (hc 0 _ hx)
 exact ⟨b,o,e,by omega,fun k x hk=>ht b _ x hb hne (hc k x hk)⟩
theorem Is.far {n:Nat} {A:Option Addr} {xs:List Int} (h:Is W B A n xs) (hne:∀ b o v,W.cell? ⟨b,o,none⟩=some (.int .i64 v)→b≠q) (hk:∀ b o,b<B→b≠q→W'.cell? ⟨b,o,none⟩=W.cell? ⟨b,o,none⟩) (hB:B≤B'):Is W' B' A n xs:=by
 refine ⟨h.1,fun h0=>?_⟩
 obtain ⟨b,o,e,hb,hc⟩:=h.2 h0
 refine ⟨b,o,e,by omega,fun j u hu=>?_⟩
 have h1:=hc j u hu
 obtain ⟨v,rfl⟩:∃ v,u=.int .i64 v:=by
  obtain ⟨v,_,rfl⟩:=List.mem_map.1 (List.mem_of_getElem? hu)
  exact ⟨v,rfl⟩
 rw [hk b _ hb (hne b _ v h1)]
 exact h1
theorem LedIn.far {x:Lsl} {l:Led} (h:LedIn W B x l) (hne:∀ b o v,W.cell? ⟨b,o,none⟩=some (.int .i64 v)→b≠q) (hk:∀ b o,b<B→b≠q→W'.cell? ⟨b,o,none⟩=W.cell? ⟨b,o,none⟩) (hB:B≤B'):LedIn W' B' x l:=by
 refine ⟨Sq.far (q:=q) h.p (fun b o x hq=>hne b _ _ hq.1) (fun b o x hb hn hq=>⟨(hk b _ hb hn).trans hq.1,(hk b _ hb hn).trans hq.2⟩) hB,Sq.far (q:=q) h.r (fun b o x hq=>?_) (fun b o x hb hn hq=>?_) hB,Sq.far (q:=q) h.t (fun b o x hq=>?_) (fun b o x hb hn hq=>?_) hB,Sq.far (q:=q) h.s (fun b o x hq=>?_) (fun b o x hb hn hq=>?_) hB⟩
 ·obtain ⟨A,n,c,⟨g0,-⟩,-⟩:=hq;exact hne b _ _ g0
 ·obtain ⟨A,n,c,⟨g0,g1,g2,g3,g4,g5,g6⟩,hi,hc⟩:=hq
  exact ⟨A,n,c,⟨(hk b _ hb hn).trans g0,(hk b _ hb hn).trans g1,(hk b _ hb hn).trans g2,(hk b _ hb hn).trans g3,(hk b _ hb hn).trans g4,(hk b _ hb hn).trans g5,(hk b _ hb hn).trans g6⟩,hi.far hne hk hB,hc⟩
 ·obtain ⟨A,n,c,⟨g0,-⟩,-⟩:=hq;exact hne b _ _ g0
 ·obtain ⟨A,n,c,⟨g0,g1,g2,g3,g4,g5,g6,g7⟩,hi,hc⟩:=hq
  exact ⟨A,n,c,⟨(hk b _ hb hn).trans g0,(hk b _ hb hn).trans g1,(hk b _ hb hn).trans g2,(hk b _ hb hn).trans g3,(hk b _ hb hn).trans g4,(hk b _ hb hn).trans g5,(hk b _ hb hn).trans g6,(hk b _ hb hn).trans g7⟩,hi.far hne hk hB,hc⟩
 ·exact hne b _ _ hq.1
 ·obtain ⟨g0,g1,g2,g3,g4,g5,g6⟩:=hq
  exact ⟨(hk b _ hb hn).trans g0,(hk b _ hb hn).trans g1,(hk b _ hb hn).trans g2,(hk b _ hb hn).trans g3,(hk b _ hb hn).trans g4,(hk b _ hb hn).trans g5,(hk b _ hb hn).trans g6⟩
end
theorem hon_kept {wr W':World} {B n:Nat} {A:Option Addr} {y:Lsl} {l:Led} {DL:List Int} {t:TypeId} (hl:LedIn wr wr.heap.size y l) (hd:Is wr wr.heap.size A n DL) (hz:BoxA wr B t #[.slice none 0 0,.slice none 0 0,.slice none 0 0,.slice none 0 0]) (hg:wr.grownBy W' (some B)):LedIn W' W'.heap.size y l∧Is W' W'.heap.size A n DL:=by
 have hne:∀ b o v,wr.cell? ⟨b,o,none⟩=some (.int .i64 v)→b≠B:=by
  rintro b o v h rfl
  rw [hz.cell] at h
  match o,h with
  | 0,h=>simp at h
  | 1,h=>simp at h
  | 2,h=>simp at h
  | 3,h=>simp at h
  | o+4,h=>simp at h
 have hk:∀ b o,b<wr.heap.size→b≠B→W'.cell? ⟨b,o,none⟩=wr.cell? ⟨b,o,none⟩:=fun b o hb hn=>by
  simp only [World.cell?,hg.block b hb (fun e=>hn (by injection e))]
 exact ⟨hl.far hne hk hg.size,hd.far hne hk hg.size⟩
end Go.Proofs.YtmcmbicapdcfmaaGreat
