/- Layer 2 of the texts that the statements over histories take: Pbmq. -/
import Derived.Test.YtmcmbicapdcfmaaGreatPblq
import Derived.Test.YtmcmbicapdcfmaaGreatPbgq
import Derived.Test.YtmcmbicapdcfmaaGreatPbhq
set_option linter.unusedVariables false
set_option linter.unusedSimpArgs false
set_option maxHeartbeats 16000000
namespace Go.Proofs.YtmcmbicapdcfmaaGreat
open Go.RowKit Go.Maps
structure SnS (w W:World) (LC SC:Array Value):Prop where
 hB:Below w.heap.size w W
 bL:BoxA W w.heap.size 32 LC
 bS:BoxA W (w.heap.size+1) 70 SC
 bZ:BoxA W (w.heap.size+2) 32 #[.slice none 0 0,.slice none 0 0,.slice none 0 0,.slice none 0 0]
theorem SnS.ext {w W W':World} {LC SC:Array Value} (h:SnS w W LC SC) (hb:Below W.heap.size W W'):SnS w W' LC SC:=⟨bt_ h.hB hb,h.bL.ext hb,h.bS.ext hb,h.bZ.ext hb⟩
theorem SnS.grow {w W W':World} {LC SC:Array Value} (h:SnS w W LC SC) {row:Option Nat} (hg:W.grownBy W' row) (hr:∀ b,row=some b→w.heap.size+3≤b):SnS w W' LC SC :=
 ⟨h.hB.grown hg h.hB.size fun b hb=>by have:=hr b hb;omega,h.bL.kept hg (fun e=>by have:=hr _ e.symm;omega),h.bS.kept hg (fun e=>by have:=hr _ e.symm;omega),h.bZ.kept hg (fun e=>by have:=hr _ e.symm;omega)⟩
theorem SnS.new (w:World) (LC SC:Array Value):SnS w (((w.alloc (.cells LC 32)).alloc (.cells SC 70)).alloc (.cells #[.slice none 0 0,.slice none 0 0,.slice none 0 0,.slice none 0 0] 32)) LC SC:=by
 have h:=box3 w 32 70 32 LC SC #[.slice none 0 0,.slice none 0 0,.slice none 0 0,.slice none 0 0]
 exact ⟨by exact bel_,h.1,h.2.1,h.2.2⟩
def RetSeen (l:Led) (s:Sgt) (w:World) (e:Ending) (w':World):Prop:=∃ y:Lsl,e=.returned (.tuple #[.agg #[.slice y.pA y.pn y.pc,.slice y.rA y.rn y.rc,.slice y.tA y.tn y.tc,.slice y.sA y.sn y.sc],.int .i64 (seenE l s)])∧Below w.heap.size w w'∧y.fit∧LedIn w' w'.heap.size y (seenL l s)
theorem Led.none_in (w:World) (B:Nat):LedIn w B ⟨none,0,0,none,0,0,none,0,0,none,0,0⟩ ⟨[],[],[],[]⟩:=⟨Sq.nil_,Sq.nil_,Sq.nil_,Sq.nil_⟩
theorem RetSeen.err {l:Led} {s:Sgt} {w w':World} {v:Int} (hv:seenE l s=v) (h0:¬ v=0) (hb:Below w.heap.size w w'):RetSeen l s w (.returned (.tuple #[.agg #[.slice none 0 0,.slice none 0 0,.slice none 0 0,.slice none 0 0],.int .i64 v])) w' :=
 ⟨⟨none,0,0,none,0,0,none,0,0,none,0,0⟩,by rw [hv],hb,⟨⟨lr_,Nat.zero_le _⟩,⟨lr_,Nat.zero_le _⟩,⟨lr_,Nat.zero_le _⟩,⟨lr_,Nat.zero_le _⟩⟩,by rw [seenL,if_neg (by rw [hv];exact h0)];exact Led.none_in _ _⟩
structure SnL (w W:World) (LC SC OC:Array Value) (qo:Nat):Prop where
 s:SnS w W LC SC
 bO:BoxA W qo 32 OC
 zq:w.heap.size+3≤qo
theorem SnL.ext {w W W':World} {LC SC OC:Array Value} {qo:Nat} (h:SnL w W LC SC OC qo) (hb:Below W.heap.size W W'):SnL w W' LC SC OC qo:=⟨h.s.ext hb,h.bO.ext hb,h.zq⟩
theorem SnL.grow {w W W':World} {LC SC OC:Array Value} {qo:Nat} (h:SnL w W LC SC OC qo) {base s n:Nat} {t:TypeId} {v:Value} {xs:List Value} (ho:W.ownsRow base t s v n xs) (ht:32≠t) (hbase:w.heap.size+3≤base) (hg:W.grownBy W' v.ownBlock):SnL w W' LC SC OC qo :=
 ⟨h.s.grow hg fun b hb=>Nat.le_trans hbase (own_le ho hb),h.bO.kept hg (own_ne ho h.bO ht),h.zq⟩
theorem SnL.set {w W:World} {LC SC OC:Array Value} {qo:Nat} (h:SnL w W LC SC OC qo) (o:Nat) (u:Value):SnL w (W.setCell ⟨qo,o,none⟩ u) LC SC (OC.setIfInBounds o u) qo:=by
 have hz:=h.zq
 exact ⟨h.s.grow (grown_setCell W qo o u) (fun b e=>by cases e;omega),h.bO.set o u,hz⟩
def SZ7 (b1 b2:Nat) (c1 c2:Array Value) (b o:Nat) (z:Sgt) (V:World):Prop:=S1 b1 b2 c1 c2 V∧b<V.heap.size∧V.cell? ⟨b,o,none⟩=some (.int .i64 z.src)∧V.cell? ⟨b,o+1,none⟩=some (.int .i64 z.per)∧V.cell? ⟨b,o+2,none⟩=some (.int .i64 z.pap)∧V.cell? ⟨b,o+3,none⟩=some (.int .i64 z.leaf)∧V.cell? ⟨b,o+4,none⟩=some (.int .i64 z.day)∧V.cell? ⟨b,o+5,none⟩=some (.int .i64 z.kn)∧V.cell? ⟨b,o+6,none⟩=some (.int .i64 z.un)
theorem SZ7.ext {b1 b2 b o:Nat} {c1 c2:Array Value} {z:Sgt} {V V':World} (hb:Below V.heap.size V V') (h:SZ7 b1 b2 c1 c2 b o z V):SZ7 b1 b2 c1 c2 b o z V':=by
 obtain ⟨h0,h1,q0,q1,q2,q3,q4,q5,q6⟩:=h
 have hs:=hb.size
 have c:∀ j,V'.cell? ⟨b,j,none⟩=V.cell? ⟨b,j,none⟩:=fun j=>hb.cell (p:=⟨b,j,none⟩) h1
 exact ⟨S1.ext hb h0,by omega,(c _).trans q0,(c _).trans q1,(c _).trans q2,(c _).trans q3,(c _).trans q4,(c _).trans q5,(c _).trans q6⟩
section
variable {P:Program} {o:Oper} {Q:Exit→Act→World→Prop}
theorem wp_region_bheld {id:Nat} {a:Act} {w:World} {l:List Oper} (n:Nat) (hm:P.follows .mixedOrders=true) (hn:l.length=n)
 (h:Below w.heap.size w w.drew→wpAnyH P .any l.toArray Q (fun V=>Below w.heap.size w V) n (Array.replicate n false) a w.drew):(Code.region id l.toArray true).wp P Q a w :=
 wp_region_held_lit (S:=fun V=>Below w.heap.size w V) n hm hn ((Below.refl _ _).drew) h
end
theorem byR_false {l:Led} {T:List Bool} {kn:Int} {i:Nat} (h:T[i]?=some false):byR l T kn i=(0,100000):=by
 rw [byR,h]
theorem byR_true {l:Led} {kn:Int} {i:Nat} {t:Rtn} (hT:(tellK l kn l.rt.length)[i]?=some true) (ht:l.rt[i]?=some t):∃ ix r,rcIx l.rc t.rcp kn=some ix∧l.rc[ix]?=some r∧byR l (tellK l kn l.rt.length) kn i=(max t.lo (r.day+1),l.rc.foldl (refHi kn r t.lv) t.hi):=by
 have h1:(opnK kn (cntR l kn) l.rt l.rt.length l.rt.length).T[i]?=some true:=by rw [tell_opn l kn _ lr_];exact hT
 obtain ⟨r,hr,-⟩:=opn_P kn (cntR l kn) l.rt l.rt.length lr_ i t h1 ht
 have hr2:=hr
 rw [findR_cnt] at hr2
 obtain ⟨ix,hix,hrc⟩:=Option.bind_eq_some_iff.1 hr2
 exact ⟨ix,r,hix,hrc,by rw [byR,hT,ht];simp only [hr]⟩
theorem refN_len (l:Led) (T:List Bool) (kn:Int) (D:List (Int × Int)) (s:Sgt):(refN l T kn D s).1.length=D.length:=by
 unfold refN
 split
 ·rfl
 ·split
  ·rfl
  ·split
   ·rfl
   ·split
    ·rw [List.length_set]
    ·split
     ·rw [List.length_set]
     ·rfl
theorem refL_len (l:Led) (T:List Bool) (kn:Int):∀ (S:List Sgt) (D:List (Int × Int)),(refL l T kn S D).1.length=D.length
 | [],D=>rfl
 | s :: S,D=>by rw [refL];exact (refL_len l T kn S _).trans (refN_len l T kn D s)
set_option maxRecDepth 10000 in
theorem r_look (l:Led) (x:Lsl) (kn:Int) (w:World) (hl:LedOk l) (hd:LedIn w w.heap.size x l) :
 Calls Tryz.prog 42 #[.agg #[.slice x.pA x.pn x.pc,.slice x.rA x.rn x.rc,.slice x.tA x.tn x.tc,.slice x.sA x.sn x.sc],.int .i64 kn] w fun e w'=>∃ B c,e=.returned (.agg #[.slice x.pA x.pn x.pc,.slice x.rA x.rn x.rc,.slice x.tA x.tn x.tc,.slice x.sA x.sn x.sc,.int .i64 kn,.slice (some ⟨B,0,none⟩) x.tn c,.slice none 0 0])∧Below w.heap.size w w'∧BoxA w' B 4 (boolL (tellK l kn l.rt.length)).toArray∧w.heap.size≤B:=by
 obtain ⟨pA,pn,pc,rA,rn,rc,tA,tn,tc,sA,sn,sc⟩:=x
 show Calls _ _ #[.agg #[.slice pA pn pc,.slice rA rn rc,.slice tA tn tc,.slice sA sn sc],_] _ _
 have HTE:Hid (∀ W:World,Below w.heap.size w W→Calls Tryz.prog 40 #[.agg #[.slice pA pn pc,.slice rA rn rc,.slice tA tn tc,.slice sA sn sc],.int .i64 kn] W (RetTl l kn tn W)):=by
  show ∀ _,_
  exact fun W hW=>r_telling l ⟨pA,pn,pc,rA,rn,rc,tA,tn,tc,sA,sn,sc⟩ kn W hl (hd.now hW)
 clear hd hl
 go_enter Tryz.func42,Tryz.ntmps42
 go_wp2_with fail
 refine wp_named2 fun f1 W4 hf1 hW4=>?_
 have bL:BoxA W4 w.heap.size 32 #[.slice pA pn pc,.slice rA rn rc,.slice tA tn tc,.slice sA sn sc]:=by (rw [← hW4];simp only [boxed_iff,boxa_iff,alloc_get,drew_heap,World.size_alloc];(repeat (first | rw [if_pos trivial] | rw [if_pos (by omega)] | rw [if_neg (by omega)])))
 have bZ:BoxA W4 (w.heap.size+1) 89 #[.slice none 0 0,.slice none 0 0,.slice none 0 0,.slice none 0 0,.int .i64 0,.slice none 0 0,.slice none 0 0]:=by (rw [← hW4];simp only [boxed_iff,boxa_iff,alloc_get,drew_heap,World.size_alloc];(repeat (first | rw [if_pos trivial] | rw [if_pos (by omega)] | rw [if_neg (by omega)])))
 have HB4:Below w.heap.size w W4:=by rw [← hW4];exact bel_
 have hs4:=HB4.size
 clear hW4
 subst hf1
 have kL:=bL.cell
 have zL:=bL.lt
 have zZ:=bZ.lt
 (refine wp_region_held_lit (S:=(fun V=>V.cell? ⟨w.heap.size,0,none⟩=some (.slice pA pn pc)∧V.cell? ⟨w.heap.size,1,none⟩=some (.slice rA rn rc)∧V.cell? ⟨w.heap.size,2,none⟩=some (.slice tA tn tc)∧V.cell? ⟨w.heap.size,3,none⟩=some (.slice sA sn sc))) 7 (by kernel_rfl) rfl ⟨(kL 0).trans rfl,(kL 1).trans rfl,(kL 2).trans rfl,(kL 3).trans rfl⟩ (fun hS=>?_);simp only [List.reduceReplicate,Array.replicate_succ,Array.replicate_zero])
 (refine tk_ (i:=0) (v:=?_) rfl ?_ hS ?_;rotate_left;focus (intro w2 hw2;go_split_ands;go_simp;first | done | with_reducible rfl);(try simp only [Act.put,pu1,pu2,pu3]))
 (refine tk_ (i:=1) (v:=?_) rfl ?_ hS ?_;rotate_left;focus (intro w2 hw2;go_split_ands;go_simp;first | done | with_reducible rfl);(try simp only [Act.put,pu1,pu2,pu3]))
 (refine tk_ (i:=2) (v:=?_) rfl ?_ hS ?_;rotate_left;focus (intro w2 hw2;go_split_ands;go_simp;first | done | with_reducible rfl);(try simp only [Act.put,pu1,pu2,pu3]))
 (refine tk_ (i:=3) (v:=?_) rfl ?_ hS ?_;rotate_left;focus (intro w2 hw2;go_split_ands;go_simp;first | done | with_reducible rfl);(try simp only [Act.put,pu1,pu2,pu3]))
 refine rd_ [4] ?_
 refine ah1 rfl fun K hK=>?_
 (go_simp;go_at_call 40;refine (HTE.out _ (by exact bel_)).mono ?_;rintro e w6 ⟨B,Tc,rfl,hb6,hT,hBB⟩;go_simp)
 have h6:Below W4.heap.size W4 w6:=bt_ (by exact bel_) hb6
 have bL6:=bL.ext h6
 have bZ6:=bZ.ext h6
 have kL6:=bL6.cell
 refine hK.out _ _ ⟨(kL6 0).trans rfl,(kL6 1).trans rfl,(kL6 2).trans rfl,(kL6 3).trans rfl⟩ (fun hS=>?_)
 clear hK K
 (try simp only [Act.put,pu1,pu2,pu3])
 (refine tk_ (i:=5) (v:=?_) rfl ?_ hS ?_;rotate_left;focus (intro w2 hw2;go_split_ands;go_simp;first | done | with_reducible rfl);(try simp only [Act.put,pu1,pu2,pu3]))
 have kZ:=bZ6.cell
 have zZ6:=bZ6.lt
 have fZ:=bZ6.frozen
 have HT:=hd_ hT
 have HBL6:=hd_ bL6
 have HBZ6:=hd_ bZ6
 have hBB2:W4.heap.size≤B:=hBB
 clear kL zL bL bZ bL6 bZ6 kL6 hT
 refine rd_ [6] ?_
 refine ah1 rfl fun K hK=>?_
 go_simp
 have n01:w.heap.size≠w.heap.size+1:=by omega
 have q:=(HBL6.out.other7 n01 (.slice pA pn pc) (.slice rA rn rc) (.slice tA tn tc) (.slice sA sn sc) (.int .i64 kn) (.slice (some ⟨B,0,none⟩) tn Tc) (.slice none 0 0)).cell
 refine hK.out _ _ ⟨(q 0).trans rfl,(q 1).trans rfl,(q 2).trans rfl,(q 3).trans rfl⟩ (fun hS=>?_)
 clear hK K q
 (try simp only [Act.put,pu1,pu2,pu3])
 refine wpAnyH_done (by kernel_rfl) ?_ _
 have bZ7:=HBZ6.out.set7 (.slice pA pn pc) (.slice rA rn rc) (.slice tA tn tc) (.slice sA sn sc) (.int .i64 kn) (.slice (some ⟨B,0,none⟩) tn Tc) (.slice none 0 0)
 have hz4:w.heap.size+1<W4.heap.size:=zZ
 have HT7:=hd_ (HT.out.other7 (show B≠w.heap.size+1 by omega) (.slice pA pn pc) (.slice rA rn rc) (.slice tA tn tc) (.slice sA sn sc) (.int .i64 kn) (.slice (some ⟨B,0,none⟩) tn Tc) (.slice none 0 0))
 have HB7:Below w.heap.size w (((((((w6.setCell ⟨w.heap.size+1,0,none⟩ (.slice pA pn pc)).setCell ⟨w.heap.size+1,1,none⟩ (.slice rA rn rc)).setCell ⟨w.heap.size+1,2,none⟩ (.slice tA tn tc)).setCell ⟨w.heap.size+1,3,none⟩ (.slice sA sn sc)).setCell ⟨w.heap.size+1,4,none⟩ (.int .i64 kn)).setCell ⟨w.heap.size+1,5,none⟩ (.slice (some ⟨B,0,none⟩) tn Tc)).setCell ⟨w.heap.size+1,6,none⟩ (.slice none 0 0)):=below_set7 (HB4.trans (h6.mono hs4)) (Nat.le_succ _) _ _ _ _ _ _ _
 have HZ7:=hd_ bZ7
 obtain ⟨W7,hW7⟩:∃ W7,(((((((w6.setCell ⟨w.heap.size+1,0,none⟩ (.slice pA pn pc)).setCell ⟨w.heap.size+1,1,none⟩ (.slice rA rn rc)).setCell ⟨w.heap.size+1,2,none⟩ (.slice tA tn tc)).setCell ⟨w.heap.size+1,3,none⟩ (.slice sA sn sc)).setCell ⟨w.heap.size+1,4,none⟩ (.int .i64 kn)).setCell ⟨w.heap.size+1,5,none⟩ (.slice (some ⟨B,0,none⟩) tn Tc)).setCell ⟨w.heap.size+1,6,none⟩ (.slice none 0 0))=W7:=⟨_,rfl⟩
 rw [hW7] at HT7 HZ7 HB7 ⊢
 clear hW7 bZ7 kZ zZ6 fZ hS hb6
 have kZ:=HZ7.out.cell
 have zZ:=HZ7.out.lt
 go_wp2
 refine bodyPost_ret (v:=.agg #[.slice pA pn pc,.slice rA rn rc,.slice tA tn tc,.slice sA sn sc,.int .i64 kn,.slice (some ⟨B,0,none⟩) tn Tc,.slice none 0 0]) ?_ rfl ?_
 ·(simp [results,Tryz.f42,go_sem];try go_simp)
 ·exact ⟨_,_,rfl,HB7,HT7.out,by omega⟩
structure Rw where
 A:Option Addr
 (n c:Nat)
 xs:List Int
def Rw.v (r:Rw):Value:=.slice r.A r.n r.c
structure RwAt (lo:Nat) (W:World) (r:Rw):Prop where
 len:r.xs.length=r.n
 cap:r.n≤r.c∧r.c≤maxLen
 at_:r.A=none∧r.n=0∧r.c=0∨∃ b,r.A=some ⟨b,0,none⟩∧lo≤b∧BoxA W b 3 (intL r.xs).toArray
theorem RwAt.ext {lo:Nat} {W W':World} {r:Rw} (h:RwAt lo W r) (hb:Below W.heap.size W W'):RwAt lo W' r:=⟨h.len,h.cap,h.at_.imp id fun ⟨b,e,hl,hx⟩=>⟨b,e,hl,hx.ext hb⟩⟩
theorem RwAt.kept {lo base size n:Nat} {W W':World} {r:Rw} {t:TypeId} {v:Value} {xs:List Value} (h:RwAt lo W r) (ho:W.ownsRow base t size v n xs) (ht:t≠3) (hg:W.grownBy W' v.ownBlock):RwAt lo W' r:=⟨h.len,h.cap,h.at_.imp id fun ⟨b,e,hl,hx⟩=>⟨b,e,hl,hx.kept hg (fun he=>by
 obtain ⟨cur,hh⟩:=own_block ho he.symm
 have h2:W.heap[b]?=some (.cells (intL r.xs).toArray 3 (0,0)):=hx
 rw [h2] at hh
 injection hh with hh
 injection hh with _ h3
 exact ht h3.symm)⟩⟩
theorem RwAt.is {lo:Nat} {W:World} {r:Rw} (h:RwAt lo W r):Is W W.heap.size r.A r.n r.xs:=by
 rcases h.at_ with ⟨h1,h2,-⟩ | ⟨b,h1,-,hx⟩
 ·have h3:=h.len
  rw [h2] at h3
  rw [h1,h2,List.eq_nil_of_length_eq_zero h3]
  exact Rd.nil_
 ·rw [h1]
  exact is_box hx h.len
def SW (b1 b2:Nat) (c1 c2:Array Value) (b o:Nat) (ec:List Value) (V:World):Prop:=S1 b1 b2 c1 c2 V∧b<V.heap.size∧∀ m u,ec[m]?=some u→V.cell? ⟨b,o+m,none⟩=some u
theorem SW.ext {b1 b2 b o:Nat} {c1 c2:Array Value} {ec:List Value} {V V':World} (hb:Below V.heap.size V V') (h:SW b1 b2 c1 c2 b o ec V):SW b1 b2 c1 c2 b o ec V':=by
 obtain ⟨h0,h1,h2⟩:=h
 have hs:=hb.size
 exact ⟨S1.ext hb h0,by omega,fun m u hu=>(hb.cell (p:=⟨b,o+m,none⟩) h1).trans (h2 m u hu)⟩
structure WoI (w wv W:World) (q:Nat) (OC:Array Value) (a b c:Nat × Value × List Value):Prop where
 bel:Below w.heap.size w W
 keep:∀ k,k<wv.heap.size→k≠q→W.heap[k]?=wv.heap[k]?
 sz:wv.heap.size≤W.heap.size
 bO:BoxA W q 32 OC
 r:W.ownsRow wv.heap.size 79 7 a.2.1 a.1 a.2.2
 t:W.ownsRow wv.heap.size 75 8 b.2.1 b.1 b.2.2
 s:W.ownsRow wv.heap.size 70 7 c.2.1 c.1 c.2.2
end Go.Proofs.YtmcmbicapdcfmaaGreat
namespace Go.Proofs.YtmcmbicapdcfmaaGreat
open Go.RowKit
end Go.Proofs.YtmcmbicapdcfmaaGreat
namespace Go.Proofs.YtmcmbicapdcfmaaGreat
open Go.RowKit Go.Shelf Go.Maps
end Go.Proofs.YtmcmbicapdcfmaaGreat
