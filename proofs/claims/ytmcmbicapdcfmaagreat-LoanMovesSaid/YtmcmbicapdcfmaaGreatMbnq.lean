/- Layer 2 of the texts that LoanMoves takes: Mbnq. -/
import Derived.Test.YtmcmbicapdcfmaaGreatMblq
import Derived.Test.YtmcmbicapdcfmaaGreatMbmq
set_option linter.unusedVariables false
set_option linter.unusedSimpArgs false
set_option maxHeartbeats 16000000
namespace Go.Proofs.YtmcmbicapdcfmaaGreat
open Go.RowKit Go.Maps
structure SnL (w W:World) (LC SC OC:Array Value) (qo:Nat):Prop where
 s:SnS w W LC SC
 bO:BoxA W qo 32 OC
 zq:w.heap.size+3≤qo
theorem SnL.ext {w W W':World} {LC SC OC:Array Value} {qo:Nat} (h:SnL w W LC SC OC qo) (hb:Below W.heap.size W W'):SnL w W' LC SC OC qo:=⟨h.s.ext hb,h.bO.ext hb,h.zq⟩
theorem SnL.grow {w W W':World} {LC SC OC:Array Value} {qo:Nat} (h:SnL w W LC SC OC qo) {base s n:Nat} {t:TypeId} {v:Value} {xs:List Value} (ho:W.ownsRow base t s v n xs) (ht:32≠t) (hbase:w.heap.size+3≤base) (hg:W.grownBy W' v.ownBlock):SnL w W' LC SC OC qo :=
 ⟨h.s.grow hg fun b hb=>Nat.le_trans hbase (own_le ho hb),h.bO.kept hg (own_ne ho h.bO ht),h.zq⟩
theorem SnL.set {w W:World} {LC SC OC:Array Value} {qo:Nat} (h:SnL w W LC SC OC qo) (o:Nat) (u:Value):SnL w (W.setCell ⟨qo,o,none⟩ u) LC SC (OC.setIfInBounds o u) qo:=by
 have hz:=h.zq
 exact ⟨h.s.grow (grown_setCell W qo o u) (fun b e=>by cases e;omega),h.bO.set o u,hz⟩
theorem S1.grownR {b1 b2:Nat} {row:Option Nat} {c1 c2:Array Value} {V V':World} (hg:V.grownBy V' row) (h:S1 b1 b2 c1 c2 V) (n1:some b1≠row) (n2:some b2≠row):S1 b1 b2 c1 c2 V':=by
 obtain ⟨h1,h2,z1,z2⟩:=h
 have e1:=hg.block b1 z1 n1
 have e2:=hg.block b2 z2 n2
 have hs:=hg.size
 refine ⟨fun o=>?_,fun o=>?_,by omega,by omega⟩
 ·rw [← h1 o];simp [World.cell?,e1]
 ·rw [← h2 o];simp [World.cell?,e2]
def SZ7 (b1 b2:Nat) (c1 c2:Array Value) (b o:Nat) (z:Sgt) (V:World):Prop:=S1 b1 b2 c1 c2 V∧b<V.heap.size∧V.cell? ⟨b,o,none⟩=some (.int .i64 z.src)∧V.cell? ⟨b,o+1,none⟩=some (.int .i64 z.per)∧V.cell? ⟨b,o+2,none⟩=some (.int .i64 z.pap)∧V.cell? ⟨b,o+3,none⟩=some (.int .i64 z.leaf)∧V.cell? ⟨b,o+4,none⟩=some (.int .i64 z.day)∧V.cell? ⟨b,o+5,none⟩=some (.int .i64 z.kn)∧V.cell? ⟨b,o+6,none⟩=some (.int .i64 z.un)
theorem SZ7.ext {b1 b2 b o:Nat} {c1 c2:Array Value} {z:Sgt} {V V':World} (hb:Below V.heap.size V V') (h:SZ7 b1 b2 c1 c2 b o z V):SZ7 b1 b2 c1 c2 b o z V':=by
 obtain ⟨h0,h1,q0,q1,q2,q3,q4,q5,q6⟩:=h
 have hs:=hb.size
 have c:∀ j,V'.cell? ⟨b,j,none⟩=V.cell? ⟨b,j,none⟩:=fun j=>hb.cell (p:=⟨b,j,none⟩) h1
 exact ⟨S1.ext hb h0,by omega,(c _).trans q0,(c _).trans q1,(c _).trans q2,(c _).trans q3,(c _).trans q4,(c _).trans q5,(c _).trans q6⟩
theorem SZ7.grownR {b1 b2 b o:Nat} {row:Option Nat} {c1 c2:Array Value} {z:Sgt} {V V':World} (hg:V.grownBy V' row) (h:SZ7 b1 b2 c1 c2 b o z V) (n1:some b1≠row) (n2:some b2≠row) (n3:some b≠row):SZ7 b1 b2 c1 c2 b o z V':=by
 obtain ⟨h0,h1,q0,q1,q2,q3,q4,q5,q6⟩:=h
 have hs:=hg.size
 have e3:=hg.block b h1 n3
 have c:∀ j,V'.cell? ⟨b,j,none⟩=V.cell? ⟨b,j,none⟩:=fun j=>by simp [World.cell?,e3]
 exact ⟨S1.grownR hg h0 n1 n2,by omega,(c _).trans q0,(c _).trans q1,(c _).trans q2,(c _).trans q3,(c _).trans q4,(c _).trans q5,(c _).trans q6⟩
theorem rt_some {T:List Bool} {rt:List Rtn} {s x:Int} {k:Nat} (h:rtIx T rt s x=some k):T[k]?=some true∧∃ t,rt[k]?=some t∧t.rcp=s∧x∈t.lv:=by
 obtain ⟨hl,hp,_⟩:=List.findIdx?_eq_some_iff_getElem.1 h
 rw [List.getElem_zip] at hp
 simp at hl
 simp only [rtAt,Bool.and_eq_true,decide_eq_true_eq] at hp
 have h1:k<T.length:=by omega
 have h2:k<rt.length:=by omega
 exact ⟨by rw [List.getElem?_eq_getElem h1,hp.1],_,List.getElem?_eq_getElem h2,hp.2.1,hp.2.2⟩
theorem r_leavesOf_v (pp:List Ppr) (x:Lsl) (n v:Int) (w:World) (hn:x.pn≤9223372036854775807) (hd:Pps w w.heap.size x.pA x.pn pp) (h:lvOf pp n=v) :
 Calls Tryz.prog 78 #[.agg #[.slice x.pA x.pn x.pc,.slice x.rA x.rn x.rc,.slice x.tA x.tn x.tc,.slice x.sA x.sn x.sc],.int .i64 n] w fun e w'=>e=.returned (.int .i64 v)∧Below w.heap.size w w':=h ▸ r_leavesOf pp x n w hn hd
end Go.Proofs.YtmcmbicapdcfmaaGreat
