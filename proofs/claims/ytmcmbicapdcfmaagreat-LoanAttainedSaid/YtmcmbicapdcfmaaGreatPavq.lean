/- Layer 2 of the texts that the statements over histories take: Pavq. -/
import Derived.Test.YtmcmbicapdcfmaaGreatPauq
import Derived.Test.YtmcmbicapdcfmaaGreatPatq
set_option linter.unusedVariables false
set_option linter.unusedSimpArgs false
set_option maxHeartbeats 16000000
namespace Go.Proofs.YtmcmbicapdcfmaaGreat
open Go.RowKit Go.Maps
structure Opn where
 M:List ((Int × Int) × Nat)
 T:List Bool
 P:List (Int × Int)
def hiStep (d h:Int) (x:Rcp):Int:=if d<x.day then min h x.day else h
def hiL (d h:Int) (xs:List Rcp):Int:=xs.foldl (hiStep d) h
theorem hiL_snoc (d h:Int) (xs:List Rcp) (x:Rcp):hiL d h (xs ++ [x])=hiStep d (hiL d h xs) x:=by simp [hiL]
def hiK (R:List Rcp) (r:Rcp) (h:Int) (l:List Int):Int:=l.foldl (fun h x=>hiL r.day h (R.filter (isOfB r.pap x))) h
theorem hiK_succ {R:List Rcp} {r:Rcp} {h:Int} {l:List Int} {k:Nat} {x:Int} (hx:l[k]?=some x):hiK R r h (l.take (k+1))=hiL r.day (hiK R r h (l.take k)) (R.filter (isOfB r.pap x)):=by
 rw [take_snoc_some hx,hiK,List.foldl_append];rfl
def putK (M:List ((Int × Int) × Nat)) (src:Int) (i:Nat) (l:List Int):List ((Int × Int) × Nat):=l.foldl (fun M x=>putN M (src,x) i) M
theorem putK_succ {M:List ((Int × Int) × Nat)} {src:Int} {i:Nat} {l:List Int} {k:Nat} {x:Int} (hx:l[k]?=some x):putK M src i (l.take (k+1))=putN (putK M src i (l.take k)) (src,x) i:=by
 rw [take_snoc_some hx,putK,List.foldl_append];rfl
theorem getN_putK {M:List ((Int × Int) × Nat)} {src:Int} {i:Nat} {l:List Int} {k:Int × Int} {j:Nat} (h:getN (putK M src i l) k=some j):j=i∨getN M k=some j:=by
 induction l generalizing M with
 | nil=>exact .inr h
 | cons x l ih =>
   rcases ih (M:=putN M (src,x) i) h with h | h
   ·exact .inl h
   ·rw [getN_put] at h
    split at h
    ·exact .inl (Option.some.inj h).symm
    ·exact .inr h
def readR (kn:Int) (R:List Rcp) (M:List ((Int × Int) × Nat)) (t:Rtn):Option Rcp:=match findR R t.rcp with
 | none=>none
 | some r=>if (countsB t.kn t.un kn && (takesB (encM M) r t.lv && !decide (t.hi<max t.lo (r.day+1))))=true then some r else none
def readS (kn:Int) (R:List Rcp) (s:Opn) (i:Nat) (t:Rtn):Opn:=match readR kn R s.M t with
 | none=>⟨s.M,s.T,s.P.set i (0,100000)⟩
 | some r=>⟨putK s.M r.src i t.lv,s.T.set i true,(s.P.set i (0,100000)).set i (max t.lo (r.day+1),hiK R r t.hi t.lv)⟩
theorem read_len (kn:Int) (R:List Rcp) (s:Opn) (i:Nat) (t:Rtn):(readS kn R s i t).T.length=s.T.length∧(readS kn R s i t).P.length=s.P.length:=by
 unfold readS
 split <;> simp
theorem read_M {kn:Int} {R:List Rcp} {s:Opn} {i:Nat} {t:Rtn} {k:Int × Int} {j:Nat} (h:getN (readS kn R s i t).M k=some j):j=i∨getN s.M k=some j:=by
 unfold readS at h
 split at h
 ·exact .inr h
 ·exact getN_putK h
theorem findR_mem {R:List Rcp} {n:Int} {r:Rcp} (h:findR R n=some r):r∈R∧r.src=n:=by
 refine ⟨List.mem_of_find?_eq_some h,?_⟩
 have:=List.find?_some h
 simpa using this
def opnK (kn:Int) (R:List Rcp) (rt:List Rtn) (n:Nat) (k:Nat):Opn:=(List.range k).foldl (fun s i=>match rt[i]? with | some t=>readS kn R s i t | none=>s) ⟨[],List.replicate n false,List.replicate n (0,0)⟩
theorem opnK_succ {kn:Int} {R:List Rcp} {rt:List Rtn} {n k:Nat} {t:Rtn} (h:rt[k]?=some t):opnK kn R rt n (k+1)=readS kn R (opnK kn R rt n k) k t:=by
 rw [opnK,List.range_succ,List.foldl_append]
 simp only [List.foldl_cons,List.foldl_nil,h]
 rfl
theorem opnK_zero (kn:Int) (R:List Rcp) (rt:List Rtn) (n:Nat):opnK kn R rt n 0=⟨[],List.replicate n false,List.replicate n (0,0)⟩:=rfl
theorem opnK_len (kn:Int) (R:List Rcp) (rt:List Rtn) (n:Nat):∀ k,(opnK kn R rt n k).T.length=n∧(opnK kn R rt n k).P.length=n
 | 0=>by simp [opnK_zero]
 | k+1=>by
   cases h:rt[k]? with
   | none =>
     have e:opnK kn R rt n (k+1)=opnK kn R rt n k:=by
      rw [opnK,List.range_succ,List.foldl_append]
      simp only [List.foldl_cons,List.foldl_nil,h]
      rfl
     rw [e]
     exact opnK_len kn R rt n k
   | some t =>
     rw [opnK_succ h]
     have h1:=read_len kn R (opnK kn R rt n k) k t
     have h2:=opnK_len kn R rt n k
     exact ⟨h1.1.trans h2.1,h1.2.trans h2.2⟩
theorem opnK_M (kn:Int) (R:List Rcp) (rt:List Rtn) (n:Nat):∀ (m:Nat) (k:Int × Int) (j:Nat),getN (opnK kn R rt n m).M k=some j→j<m
 | 0,k,j,h=>by simp [opnK_zero,getN] at h
 | m+1,k,j,h=>by
   cases ht:rt[m]? with
   | none =>
     have e:opnK kn R rt n (m+1)=opnK kn R rt n m:=by
      rw [opnK,List.range_succ,List.foldl_append]
      simp only [List.foldl_cons,List.foldl_nil,ht]
      rfl
     rw [e] at h
     exact Nat.lt_succ_of_lt (opnK_M kn R rt n m k j h)
   | some t =>
     rw [opnK_succ ht] at h
     rcases read_M h with h | h
     ·omega
     ·exact Nat.lt_succ_of_lt (opnK_M kn R rt n m k j h)
def cntR (l:Led) (kn:Int):List Rcp:=l.rc.filter fun r=>countsB r.kn r.un kn
def cntS (l:Led) (kn:Int):List Sgt:=l.sg.filter fun s=>countsB s.kn s.un kn
def opnL (l:Led) (kn:Int):Opn:=opnK kn (cntR l kn) l.rt l.rt.length l.rt.length
theorem BoxA.setF {W:World} {B:Nat} {t:TypeId} {P:List (Int × Int)} (h:BoxA W B t (folCells P).toArray) (i:Nat) (d:Int × Int) :
 BoxA ((W.setCell ⟨B,i*2,none⟩ (.int .i64 d.1)).setCell ⟨B,i*2+1,none⟩ (.int .i64 d.2)) B t (folCells (P.set i d)).toArray:=by
 have:=(h.set (i*2) (.int .i64 d.1)).set (i*2+1) (.int .i64 d.2)
 rw [← folCells_set P i d]
 simpa using this
def boolL (T:List Bool):List Value:=T.map fun b=>.bool b
theorem BoxA.setT {W:World} {B:Nat} {t:TypeId} {T:List Bool} (h:BoxA W B t (boolL T).toArray) (i:Nat) (b:Bool):BoxA (W.setCell ⟨B,i,none⟩ (.bool b)) B t (boolL (T.set i b)).toArray:=by
 have:=h.set i (.bool b)
 simpa [boolL,List.map_set] using this
theorem BoxA.sqF {W:World} {B B':Nat} {t:TypeId} {P:List (Int × Int)} {n:Nat} (h:BoxA W B t (folCells P).toArray) (hn:P.length=n) (hB:B<B'):Sq QF 2 W B' (some ⟨B,0,none⟩) n P:=by
 refine ⟨hn,fun _=>⟨B,0,rfl,hB,fun k f hf=>?_⟩⟩
 obtain ⟨h1,h2⟩:=folCells_get P k f hf
 exact ⟨by rw [h.cell];simpa using h1,by rw [h.cell,← h2];simp⟩
theorem BoxA.sqT {W:World} {B B':Nat} {t:TypeId} {T:List Bool} {n:Nat} (h:BoxA W B t (boolL T).toArray) (hn:T.length=n) (hB:B<B'):Sq QB 1 W B' (some ⟨B,0,none⟩) n T:=by
 refine ⟨hn,fun _=>⟨B,0,rfl,hB,fun k f hf=>?_⟩⟩
 show World.cell? _ _=_
 rw [h.cell]
 simp [boolL,hf]
theorem flat_get {α:Type} (f:α→List Value) (s:Nat) (hs:∀ x,(f x).length=s):∀ (xs:List α) (k j:Nat) (x:α),xs[k]?=some x→j<s→(xs.flatMap f)[k*s+j]?=(f x)[j]?
 | [],k,j,x,h,_=>by simp at h
 | y :: xs,0,j,x,h,hj=>by
   simp at h
   subst h
   rw [List.flatMap_cons,Nat.zero_mul,Nat.zero_add,List.getElem?_append_left (by rw [hs];exact hj)]
 | y :: xs,k+1,j,x,h,hj=>by
   rw [List.flatMap_cons,List.getElem?_append_right (by rw [hs,Nat.succ_mul];omega),hs,← flat_get f s hs xs k j x (by simpa using h) hj]
   congr 1
   rw [Nat.succ_mul]
   omega
theorem flat_len {α:Type} (f:α→List Value) (s:Nat) (hs:∀ x,(f x).length=s) (xs:List α):(xs.flatMap f).length=xs.length*s:=by
 induction xs with
 | nil=>simp
 | cons x xs ih=>rw [List.flatMap_cons,List.length_append,hs,ih,List.length_cons,Nat.succ_mul];omega
abbrev rvC (v:Rv):List Value:=[.int .i64 v.r.src,.int .i64 v.r.bor,.int .i64 v.r.pap,.slice v.A v.n v.c,.int .i64 v.r.day,.int .i64 v.r.kn,.int .i64 v.r.un]
def rvCells (xs:List Rv):List Value:=xs.flatMap rvC
theorem sq_rv {w:World} {B n:Nat} {A:Option Addr} {xs:List Rv} (h:Rd w B 7 A n (rvCells xs)) (hn:xs.length=n) (hv:∀ v∈xs,Is w B v.A v.n v.r.lv∧v.n≤v.c∧v.c≤maxLen):Sq QV 7 w B A n xs:=by
 refine ⟨hn,fun h0=>?_⟩
 obtain ⟨b,o,e,hb,hc⟩:=h.2 h0
 refine ⟨b,o,e,hb,fun k v hk=>⟨?_,hv v (List.mem_of_getElem? hk)⟩⟩
 have g:∀ j u,j<7→(rvC v)[j]?=some u→w.cell? ⟨b,o+k*7+j,none⟩=some u:=fun j u hj hu=>by
  have:=hc (k*7+j) u (by rw [← hu];exact flat_get rvC 7 (fun _=>rfl) xs k j v hk hj)
  rwa [← Nat.add_assoc] at this
 exact ⟨g 0 _ (by omega) rfl,g 1 _ (by omega) rfl,g 2 _ (by omega) rfl,g 3 _ (by omega) rfl,g 4 _ (by omega) rfl,g 5 _ (by omega) rfl,g 6 _ (by omega) rfl⟩
theorem sq_sg {w:World} {B n:Nat} {A:Option Addr} {xs:List Sgt} (h:Rd w B 7 A n (sgCells xs)) (hn:xs.length=n):Sgs w B A n xs:=by
 refine ⟨hn,fun h0=>?_⟩
 obtain ⟨b,o,e,hb,hc⟩:=h.2 h0
 refine ⟨b,o,e,hb,fun k v hk=>?_⟩
 have g:∀ j u,j<7→([.int .i64 v.src,.int .i64 v.per,.int .i64 v.pap,.int .i64 v.leaf,.int .i64 v.day,.int .i64 v.kn,.int .i64 v.un]:List Value)[j]?=some u→w.cell? ⟨b,o+k*7+j,none⟩=some u:=fun j u hj hu=>by
  have:=hc (k*7+j) u (by rw [← hu];exact flat_get (fun s:Sgt=>[.int .i64 s.src,.int .i64 s.per,.int .i64 s.pap,.int .i64 s.leaf,.int .i64 s.day,.int .i64 s.kn,.int .i64 s.un]) 7 (fun _=>rfl) xs k j v hk hj)
  rwa [← Nat.add_assoc] at this
 exact ⟨g 0 _ (by omega) rfl,g 1 _ (by omega) rfl,g 2 _ (by omega) rfl,g 3 _ (by omega) rfl,g 4 _ (by omega) rfl,g 5 _ (by omega) rfl,g 6 _ (by omega) rfl⟩
end Go.Proofs.YtmcmbicapdcfmaaGreat
namespace Go.Proofs.YtmcmbicapdcfmaaGreat
open Go.RowKit Go.Shelf Go.Maps
attribute [local go_sem] Oper.semAt_some
structure RdK (lo bm bp bt:Nat) (w W:World):Prop where
 bel:Below lo w W
 blk:∀ k,k<w.heap.size→k≠bm→k≠bp→k≠bt→W.heap[k]?=w.heap[k]?
theorem RdK.refl {lo bm bp bt:Nat} (w:World):RdK lo bm bp bt w w:=⟨Below.refl _ _,fun _ _ _ _ _=>rfl⟩
theorem RdK.grown {lo bm bp bt:Nat} {w W W':World} {row:Option Nat} (h:RdK lo bm bp bt w W) (hlo:lo≤w.heap.size) (hg:W.grownBy W' row) (hr:∀ r,row=some r→(r=bm∨r=bp∨r=bt∨w.heap.size≤r)∧lo≤r):RdK lo bm bp bt w W' :=
 ⟨h.bel.grown hg (Nat.le_trans hlo h.bel.size) fun r e=>(hr r e).2,fun k hk h1 h2 h3=>(hg.block k (Nat.lt_of_lt_of_le hk h.bel.size) fun e=>by have:=(hr _ e.symm).1;omega).trans (h.blk k hk h1 h2 h3)⟩
structure RdJ (lo bm bp bt:Nat) (M:List ((Int × Int) × Nat)) (T:List Bool) (P:List (Int × Int)) (w W:World):Prop where
 m:MapS W bm (encM M)
 bP:BoxA W bp 133 (folCells P).toArray
 bT:BoxA W bt 4 (boolL T).toArray
 k:RdK lo bm bp bt w W
theorem RdJ.keep {lo bm bp bt:Nat} {M:List ((Int × Int) × Nat)} {T:List Bool} {P:List (Int × Int)} {w W W':World} {row:Option Nat} (h:RdJ lo bm bp bt M T P w W) (hlo:lo≤w.heap.size) (hs:bm<w.heap.size∧bp<w.heap.size∧bt<w.heap.size) (hg:W.grownBy W' row) (hr:∀ r,row=some r→w.heap.size≤r):RdJ lo bm bp bt M T P w W' :=
 ⟨h.m.keep (hg.block _ h.m.lt fun e=>by have:=hr _ e.symm;omega),h.bP.kept hg (fun e=>by have:=hr _ e.symm;omega),h.bT.kept hg (fun e=>by have:=hr _ e.symm;omega),h.k.grown hlo hg fun r e=>⟨by have:=hr _ e;omega,by have:=hr _ e;omega⟩⟩
theorem map_cell {w:World} {b:Nat} {L:List ((Int × Int) × Value)} (h:MapS w b L) (o:Nat):w.cell? ⟨b,o,none⟩=none:=by
 obtain ⟨es,c,hb,_⟩:=h.ex
 simp [World.cell?,hb]
theorem map_ne {w:World} {b b':Nat} {L:List ((Int × Int) × Value)} {t:TypeId} {cs:Array Value} (h:MapS w b L) (h':BoxA w b' t cs):b≠b':=by
 obtain ⟨es,c,hb,_⟩:=h.ex
 rintro rfl
 rw [show w.heap[b]?=_ from h'] at hb
 cases hb
theorem RdJ.cells {lo bm bp bt B:Nat} {M M0:List ((Int × Int) × Nat)} {T:List Bool} {P:List (Int × Int)} {w W:World} (h:RdJ lo bm bp bt M T P w W) (hm:MapS w bm (encM M0)) (hB:B≤bp∧B≤bt∧B≤w.heap.size) (b o:Nat) (hb:b<B):W.cell? ⟨b,o,none⟩=w.cell? ⟨b,o,none⟩:=by
 by_cases e:b=bm
 ·subst e
  rw [map_cell h.m,map_cell hm]
 ·simp only [World.cell?]
  rw [h.k.blk b (by omega) e (by omega) (by omega)]
theorem RdJ.setF {lo bm bp bt:Nat} {M:List ((Int × Int) × Nat)} {T:List Bool} {P:List (Int × Int)} {w W:World} (h:RdJ lo bm bp bt M T P w W) (hlo:lo≤w.heap.size) (hbp:lo≤bp) (i:Nat) (d:Int × Int) :
 RdJ lo bm bp bt M T (P.set i d) w ((W.setCell ⟨bp,i*2,none⟩ (.int .i64 d.1)).setCell ⟨bp,i*2+1,none⟩ (.int .i64 d.2)):=by
 have h1:bt≠bp:=fun e=>by
  have h2:W.heap[bt]?=_:=h.bT
  have h3:W.heap[bp]?=_:=h.bP
  rw [e,h3] at h2
  injection h2 with h2
  injection h2 with _ h2
  exact absurd h2 (by decide)
 have h4:=map_ne h.m h.bP
 have hg:=(grown_setCell W bp (i*2) (.int .i64 d.1)).trans (grown_setCell _ bp (i*2+1) (.int .i64 d.2))
 exact ⟨(h.m.setCell h4 _).setCell h4 _,h.bP.setF i d,(h.bT.other h1 _).other h1 _,h.k.grown hlo hg fun r e=>by cases e;exact ⟨.inr (.inl rfl),hbp⟩⟩
theorem RdJ.setT {lo bm bp bt:Nat} {M:List ((Int × Int) × Nat)} {T:List Bool} {P:List (Int × Int)} {w W:World} (h:RdJ lo bm bp bt M T P w W) (hlo:lo≤w.heap.size) (hbt:lo≤bt) (i:Nat) (b:Bool) :
 RdJ lo bm bp bt M (T.set i b) P w (W.setCell ⟨bt,i,none⟩ (.bool b)):=by
 have h1:bp≠bt:=fun e=>by
  have h2:W.heap[bt]?=_:=h.bT
  have h3:W.heap[bp]?=_:=h.bP
  rw [← e,h3] at h2
  injection h2 with h2
  injection h2 with _ h2
  exact absurd h2 (by decide)
 exact ⟨h.m.setCell (map_ne h.m h.bT) _,h.bP.other h1 _,h.bT.setT i b,h.k.grown hlo (grown_setCell W bt i (.bool b)) fun r e=>by cases e;exact ⟨.inr (.inr (.inl rfl)),hbt⟩⟩
theorem RdJ.setM {lo bm bp bt:Nat} {M M':List ((Int × Int) × Nat)} {T:List Bool} {P:List (Int × Int)} {w W:World} {o:Obj} (h:RdJ lo bm bp bt M T P w W) (hlo:lo≤w.heap.size) (hbm:lo≤bm) (hm:MapS (setObj' W bm o) bm (encM M')) :
 RdJ lo bm bp bt M' T P w (setObj' W bm o) :=
 ⟨hm,h.bP.kept (setObj'_grown W bm o) (fun e=>map_ne h.m h.bP (by injection e with e;exact e.symm)),h.bT.kept (setObj'_grown W bm o) (fun e=>map_ne h.m h.bT (by injection e with e;exact e.symm)),h.k.grown hlo (setObj'_grown W bm o) fun r e=>by cases e;exact ⟨.inl rfl,hbm⟩⟩
theorem BoxA.frozen {W:World} {B:Nat} {t:TypeId} {cs:Array Value} (h:BoxA W B t cs) (j:Nat):W.frozen? ⟨B,j,none⟩=false:=by
 simp [World.frozen?,show W.heap[B]?=_ from h]
theorem new_frozen (V:World) (cs:Array Value) (t:TypeId) (j:Nat):(V.alloc (.cells cs t)).frozen? ⟨V.heap.size,j,none⟩=false:=(BoxA.new V t cs).frozen j
structure RdL (lo bm bp bt:Nat) (M:List ((Int × Int) × Nat)) (T:List Bool) (P:List (Int × Int)) (w:World) (sA br bd base:Nat) (AC RC:Array Value) (dlo dhi:Int) (l:List Nat) (W:World):Prop where
 j:RdJ lo bm bp bt M T P w W
 bA:BoxA W sA 115 AC
 br:BoxA W br 79 RC
 bd:BoxA W bd 133 #[.int .i64 dlo,.int .i64 dhi]
 mks:Marked base l W
 sz:base≤W.heap.size
theorem RdL.keep {lo bm bp bt sA br bd base bs:Nat} {M:List ((Int × Int) × Nat)} {T:List Bool} {P:List (Int × Int)} {w W W':World} {AC RC:Array Value} {dlo dhi:Int} {l:List Nat} {row:Option Nat} (h:RdL lo bm bp bt M T P w sA br bd base AC RC dlo dhi l W) (hlo:lo≤w.heap.size)
 (hs:bm<w.heap.size∧bp<w.heap.size∧bt<w.heap.size) (hg:W.grownBy W' row) (hr:∀ r,row=some r→bs≤r) (hb:w.heap.size≤base∧sA<base∧br<base∧bd<base∧base≤bs) (hl:∀ D∈l,D<bs):RdL lo bm bp bt M T P w sA br bd base AC RC dlo dhi l W' :=
 ⟨h.j.keep hlo hs hg fun r e=>by have:=hr r e;omega,h.bA.kept hg (fun e=>by have:=hr _ e.symm;omega),h.br.kept hg (fun e=>by have:=hr _ e.symm;omega),h.bd.kept hg (fun e=>by have:=hr _ e.symm;omega),h.mks.kept hg (fun r e hm=>by have:=hr r e;have:=hl _ hm;omega),Nat.le_trans h.sz hg.size⟩
theorem RdL.setM {lo bm bp bt sA br bd base:Nat} {M M':List ((Int × Int) × Nat)} {T:List Bool} {P:List (Int × Int)} {w W:World} {AC RC:Array Value} {dlo dhi:Int} {l:List Nat} {o:Obj} (h:RdL lo bm bp bt M T P w sA br bd base AC RC dlo dhi l W) (hlo:lo≤w.heap.size) (hbm:lo≤bm)
 (hw:w.heap.size≤base) (hs:bm<w.heap.size) (hm:MapS (setObj' W bm o) bm (encM M')):RdL lo bm bp bt M' T P w sA br bd base AC RC dlo dhi l (setObj' W bm o) :=
 ⟨h.j.setM hlo hbm hm,h.bA.kept (setObj'_grown W bm o) (fun e=>map_ne h.j.m h.bA (by injection e with e;exact e.symm)),h.br.kept (setObj'_grown W bm o) (fun e=>map_ne h.j.m h.br (by injection e with e;exact e.symm)),h.bd.kept (setObj'_grown W bm o) (fun e=>map_ne h.j.m h.bd (by injection e with e;exact e.symm)),
   h.mks.kept (setObj'_grown W bm o) (fun r e hm=>by cases e;have:=h.mks.ge _ hm;omega),Nat.le_trans h.sz (setObj'_grown W bm o).size⟩
theorem RdL.setD {lo bm bp bt sA br bd base:Nat} {M:List ((Int × Int) × Nat)} {T:List Bool} {P:List (Int × Int)} {w W:World} {AC RC:Array Value} {dlo dhi:Int} {l:List Nat} (h:RdL lo bm bp bt M T P w sA br bd base AC RC dlo dhi l W) (hlo:lo≤w.heap.size)
 (hs:bm<w.heap.size∧bp<w.heap.size∧bt<w.heap.size) (hb:w.heap.size≤bd∧bd<base∧sA≠bd∧br≠bd) (d:Int):RdL lo bm bp bt M T P w sA br bd base AC RC dlo d l (W.setCell ⟨bd,1,none⟩ (.int .i64 d)) :=
 ⟨h.j.keep hlo hs (grown_setCell W bd 1 _) (fun r e=>by cases e;exact hb.1),h.bA.other (show sA≠bd from hb.2.2.1) _,h.br.other (show br≠bd from hb.2.2.2) _,h.bd.set 1 _,h.mks.keep (fun D hD=>Below.heap_setCell _ _ _ _ (show D≠bd by have:=h.mks.ge D hD;omega)),by simp;exact h.sz⟩
theorem p_takes_v (M:List ((Int × Int) × Value)) (a:Acc) (r:Rcp) (l:List Int) (A1:Option Addr) (n1 c1:Nat) (A:Option Addr) (n c:Nat) (v:Bool) (w:World) (hn:n≤1000000) (hn1:n1≤1000000)
 (hm:MapS w a.bm M) (hr:Is w w.heap.size A1 n1 r.lv) (hl:Is w w.heap.size A n l) (hwf:∀ x∈l,(Lit.int .i64 x).wf=true) (hws:(Lit.int .i64 r.src).wf=true) (hv:takesB M r l=v) :
 Calls Tryz.prog 151 #[accV a,.agg #[.int .i64 r.src,.int .i64 r.bor,.int .i64 r.pap,.slice A1 n1 c1,.int .i64 r.day,.int .i64 r.kn,.int .i64 r.un],.slice A n c] w fun e w'=>e=.returned (.bool v)∧Below w.heap.size w w':=hv ▸ p_takes M a r l A1 n1 c1 A n c w hn hn1 hm hr hl hwf hws
def RetRd (lo bm bp bt:Nat) (s:Opn) (w:World) (e:Ending) (w':World):Prop:=(∃ v,e=.returned v)∧RdJ lo bm bp bt s.M s.T s.P w w'
set_option maxRecDepth 100000 in
theorem p_read_no (l:Led) (R:List Rcp) (s:Opn) (i:Nat) (t:Rtn) (x:Lsl) (kn:Int) (RA SA:Option Addr) (Rn Rc Sn Sc bm bp bt Tc Pc lo B:Nat) (w:World) (ht:l.rt[i]?=some t)
 (hN:Rn≤1000000) (hok:∀ r∈R,r.lv.length≤1000000∧(Lit.int .i64 r.src).wf=true∧0≤r.day∧r.day≤1000000) (htn:t.lv.length≤1000000) (htw:∀ x∈t.lv,(Lit.int .i64 x).wf=true)
 (hB:B≤bp∧B≤bt∧B≤w.heap.size) (hlo:lo≤w.heap.size∧lo≤bm∧lo≤bp∧lo≤bt) (hr:Rcs w B RA Rn R) (hT:Rts w B x.tA x.tn l.rt) (hTn:s.T.length=x.tn) (hPn:s.P.length=x.tn) (hx60:x.tn≤1000000)
 (h:RdJ lo bm bp bt s.M s.T s.P w w) (hno:readR kn R s.M t=none) :
 Calls Tryz.prog 120 #[accV ⟨x,kn,RA,Rn,Rc,SA,Sn,Sc,bm,some ⟨bt,0,none⟩,x.tn,Tc,some ⟨bp,0,none⟩,x.tn,Pc⟩,.int .i64 i] w (RetRd lo bm bp bt (readS kn R s i t) w):=by
 obtain ⟨pA,pn,pc,rA,rn,rc,tA,tn,tc,sA,sn,sc⟩:=x
 obtain ⟨M,T,P⟩:=s
 have hT:Rts w B tA tn l.rt:=hT
 have hTn:T.length=tn:=hTn
 have hPn:P.length=tn:=hPn
 have htn60:tn≤1000000:=hx60
 have h:RdJ lo bm bp bt M T P w w:=h
 have hno:readR kn R M t=none:=hno
 show Calls _ _ #[.agg #[.slice pA pn pc,.slice rA rn rc,.slice tA tn tc,.slice sA sn sc,.int .i64 kn,.slice RA Rn Rc,.slice SA Sn Sc,.map (some bm),.slice (some ⟨bt,0,none⟩) tn Tc,.slice (some ⟨bp,0,none⟩) tn Pc],_] _ _
 have hit:i<tn:=by rw [← hT.len];exact (List.getElem?_eq_some_iff.1 ht).1
 obtain ⟨bR,oR,t',rfl,hbR,ht',A2,n2,c2,⟨t0,t1,t2,t3,t4,t5,t6,t7⟩,hi2,hc2,hm2⟩:=hT.at_ hit
 obtain rfl:t=t':=Option.some.inj (ht.symm.trans ht')
 have hRw:bR<w.heap.size:=by have:=hB.2.2;omega
 have hRn:bR≠bp:=by have:=hB.1;omega
 have hRn':bp≠bR:=by omega
 have hm0:=h.m
 have hbm:=h.m.lt
 have hbp:=h.bP.lt
 have hbt:=h.bT.lt
 have HS:Hid (bm<w.heap.size∧bp<w.heap.size∧bt<w.heap.size):=by show _∧_;exact ⟨hbm,hbp,hbt⟩
 have HJ:=hd_ h
 have HI2:Hid (∀ W,(∀ b o,b<B→W.cell? ⟨b,o,none⟩=w.cell? ⟨b,o,none⟩)→B≤W.heap.size→Is W W.heap.size A2 n2 t.lv):=by
  show ∀ _,_
  exact fun W hW hBW=>Is.more (Rd.keep hi2 hW) hBW
 obtain ⟨xs,hxs,hxv⟩:=rvs_of hr
 have HXV:Hid (∀ W,(∀ b o,b<B→W.cell? ⟨b,o,none⟩=w.cell? ⟨b,o,none⟩)→Sq QV 7 W B RA Rn xs):=by
  show ∀ _,_
  exact fun W hW=>hxv.keep abV hW
 have hl1:∀ v∈xs,v.n≤1000000:=fun v hv=>by
  obtain ⟨k,hk⟩:=List.getElem?_of_mem hv
  obtain ⟨b,o,y,_,_,hy,hq⟩:=hxv.at_ (k:=k) (by rw [← hxv.len];exact (List.getElem?_eq_some_iff.1 hk).1)
  obtain rfl:v=y:=Option.some.inj (hk.symm.trans hy)
  rw [← hq.2.1.len]
  exact (hok v.r (by rw [← hxs];exact List.mem_map.2 ⟨v,hv,rfl⟩)).1
 have HL1:=hd_ hl1
 have HXS:=hd_ hxs
 have hRn:Rn≤1000000:=hN
 clear hxv hl1 hxs
 have HRR:Hid (∀ W,(∀ b o,b<B→W.cell? ⟨b,o,none⟩=w.cell? ⟨b,o,none⟩)→B≤W.heap.size→Rcs W W.heap.size RA Rn R):=by
  show ∀ _,_
  exact fun W hW hBW=>(hr.keep abR hW).more abR hBW
 have HRC:Hid (∀ W,Below B w W→Calls Tryz.prog 83 #[.agg #[.slice pA pn pc,.slice rA rn rc,.slice (some ⟨bR,oR,none⟩) tn tc,.slice sA sn sc,.int .i64 kn,.slice RA Rn Rc,.slice SA Sn Sc,.map (some bm),.slice (some ⟨bt,0,none⟩) tn Tc,.slice (some ⟨bp,0,none⟩) tn Pc],.int .i64 t.rcp] W (RetRc (findR R t.rcp) W)):=by
  show ∀ _,_
  exact fun W hW=>p_receipt R ⟨⟨pA,pn,pc,rA,rn,rc,some ⟨bR,oR,none⟩,tn,tc,sA,sn,sc⟩,kn,RA,Rn,Rc,SA,Sn,Sc,bm,some ⟨bt,0,none⟩,tn,Tc,some ⟨bp,0,none⟩,tn,Pc⟩ t.rcp W hN (HRR.out W (fun b o hb=>hW.cell (p:=⟨b,o,none⟩) hb) (Nat.le_trans hB.2.2 hW.size))
 have hB1:=hB.1
 have hB2:=hB.2.1
 have hB3:=hB.2.2
 have HOK:=hd_ hok
 have HTW:=hd_ htw
 have HLT:=hd_ hi2.len
 have hn2:n2≤1000000:=by rw [← hi2.len];exact htn
 have hlo1:=hlo.1
 have hlo2:=hlo.2.1
 have hlo3:=hlo.2.2.1
 have hlo4:=hlo.2.2.2
 obtain ⟨d,hd⟩:∃ d,P[i]?=some d:=⟨_,List.getElem?_eq_getElem (by omega)⟩
 have g0:=(folCells_get P i d hd).1
 have g1:=(folCells_get P i d hd).2
 have cP0:w.cell? ⟨bp,i*2,none⟩=some (.int .i64 d.1):=by rw [h.bP.cell];simpa using g0
 have cP1:w.cell? ⟨bp,i*2+1,none⟩=some (.int .i64 d.2):=by rw [h.bP.cell];simpa using g1
 have fP:=h.bP.frozen
 clear h hr hT hi2 hok htw ht ht' g0 g1 hd hB hlo hN hx60
 have HFIN:Hid (∀ (W:World),Below ((((w.setCell ⟨bp,i*2,none⟩ (.int .i64 0)).setCell ⟨bp,i*2+1,none⟩ (.int .i64 100000)).alloc (.cells #[.slice pA pn pc,.slice rA rn rc,.slice (some ⟨bR,oR,none⟩) tn tc,.slice sA sn sc,.int .i64 kn,.slice RA Rn Rc,.slice SA Sn Sc,.map (some bm),.slice (some ⟨bt,0,none⟩) tn Tc,.slice (some ⟨bp,0,none⟩) tn Pc] 115)).alloc (.cells #[.int .i64 t.src,.int .i64 t.rcp,.int .i64 t.per,.slice A2 n2 c2,.int .i64 t.lo,.int .i64 t.hi,.int .i64 t.kn,.int .i64 t.un] 75)).heap.size ((((w.setCell ⟨bp,i*2,none⟩ (.int .i64 0)).setCell ⟨bp,i*2+1,none⟩ (.int .i64 100000)).alloc (.cells #[.slice pA pn pc,.slice rA rn rc,.slice (some ⟨bR,oR,none⟩) tn tc,.slice sA sn sc,.int .i64 kn,.slice RA Rn Rc,.slice SA Sn Sc,.map (some bm),.slice (some ⟨bt,0,none⟩) tn Tc,.slice (some ⟨bp,0,none⟩) tn Pc] 115)).alloc (.cells #[.int .i64 t.src,.int .i64 t.rcp,.int .i64 t.per,.slice A2 n2 c2,.int .i64 t.lo,.int .i64 t.hi,.int .i64 t.kn,.int .i64 t.un] 75)) W→RdJ lo bm bp bt M T (P.set i (0,100000)) w W∧BoxA W w.heap.size 115 #[.slice pA pn pc,.slice rA rn rc,.slice (some ⟨bR,oR,none⟩) tn tc,.slice sA sn sc,.int .i64 kn,.slice RA Rn Rc,.slice SA Sn Sc,.map (some bm),.slice (some ⟨bt,0,none⟩) tn Tc,.slice (some ⟨bp,0,none⟩) tn Pc]∧BoxA W (w.heap.size+1) 75 #[.int .i64 t.src,.int .i64 t.rcp,.int .i64 t.per,.slice A2 n2 c2,.int .i64 t.lo,.int .i64 t.hi,.int .i64 t.kn,.int .i64 t.un]∧w.heap.size+2≤W.heap.size):=by
  show ∀ _,_
  intro W hW
  have hb:=(BoxA.new ((w.setCell ⟨bp,i*2,none⟩ (.int .i64 0)).setCell ⟨bp,i*2+1,none⟩ (.int .i64 100000)) 115 #[.slice pA pn pc,.slice rA rn rc,.slice (some ⟨bR,oR,none⟩) tn tc,.slice sA sn sc,.int .i64 kn,.slice RA Rn Rc,.slice SA Sn Sc,.map (some bm),.slice (some ⟨bt,0,none⟩) tn Tc,.slice (some ⟨bp,0,none⟩) tn Pc]).alloc (.cells #[.int .i64 t.src,.int .i64 t.rcp,.int .i64 t.per,.slice A2 n2 c2,.int .i64 t.lo,.int .i64 t.hi,.int .i64 t.kn,.int .i64 t.un] 75)
  have hc:=BoxA.new (((w.setCell ⟨bp,i*2,none⟩ (.int .i64 0)).setCell ⟨bp,i*2+1,none⟩ (.int .i64 100000)).alloc (.cells #[.slice pA pn pc,.slice rA rn rc,.slice (some ⟨bR,oR,none⟩) tn tc,.slice sA sn sc,.int .i64 kn,.slice RA Rn Rc,.slice SA Sn Sc,.map (some bm),.slice (some ⟨bt,0,none⟩) tn Tc,.slice (some ⟨bp,0,none⟩) tn Pc] 115)) 75 #[.int .i64 t.src,.int .i64 t.rcp,.int .i64 t.per,.slice A2 n2 c2,.int .i64 t.lo,.int .i64 t.hi,.int .i64 t.kn,.int .i64 t.un]
  have hs:=hW.size
  simp only [World.size_alloc,World.size_setCell] at hs hc hb
  exact ⟨(((HJ.out.setF hlo1 hlo3 i (0,100000)).keep hlo1 HS.out (grown_alloc _ _ none) (by simp)).keep hlo1 HS.out (grown_alloc _ _ none) (by simp)).keep hlo1 HS.out (grown_of_below hW) (by simp),hb.ext hW,hc.ext hW,hs⟩
 have hcn':∀ b,countsB t.kn t.un kn=b→readS kn R ⟨M,T,P⟩ i t=readS kn R ⟨M,T,P⟩ i t:=fun _ _=>rfl
 clear hcn'
 cases hf:findR R t.rcp with
 | none =>
   have hRC:=HRC.out
   rw [hf] at hRC
   have HRC:=hd_ hRC
   clear hRC
   have hres:readS kn R ⟨M,T,P⟩ i t=⟨M,T,P.set i (0,100000)⟩:=by simp [readS,readR,hf]
   rw [hres]
   clear hres hf
   go_enter Tryz.func120,Tryz.ntmps120
   go_wp2_with (go_at_call 83;refine (HRC.out _ (by exact bel_)).mono ?_;rintro e w3 ⟨hb3,rfl⟩)
   refine bodyPost_ret (results_none rfl _ _ _) rfl ?_
   obtain ⟨hJ3,_,_,_⟩:=HFIN.out _ hb3
   exact ⟨⟨_,rfl⟩,hJ3.keep hlo1 HS.out (grown_alloc _ _ none) (by simp)⟩
 | some r =>
   obtain ⟨hr1,hr2,hr3,hr4⟩:=HOK.out r (findR_mem hf).1
   have hRC:=HRC.out
   rw [hf] at hRC
   have HRC:=hd_ hRC
   have HF:=hd_ hf
   have HM0:=hd_ hm0
   clear hRC hf hm0
   cases hcn:countsB t.kn t.un kn with
   | false =>
     have hres:readS kn R ⟨M,T,P⟩ i t=⟨M,T,P.set i (0,100000)⟩:=by simp [readS,readR,HF.out,hcn]
     rw [hres]
     have HC:=hd_ hcn
     clear hres hcn
     go_enter Tryz.func120,Tryz.ntmps120
     go_wp2_with (first | (go_at_call 83;refine (HRC.out _ (by exact bel_)).mono ?_;rintro e w3 ⟨hb3,A1,n1,c1,rfl,hi1,hc1,hm1⟩;obtain ⟨hJ3,bA3,bT3,hz3⟩:=HFIN.out _ hb3;have hn1:n1≤1000000:=(by rw [← hi1.len];exact hr1);have HJ3:=hd_ hJ3;have HI1:=hd_ (hi1.now hb3);have kA:=bA3.cell;have zA:=bA3.lt;have kT:=bT3.cell;have zT:=bT3.lt;clear hi1 hJ3 hb3) | (go_at_call 119;refine (p_counts2 _ _ _ false _ HC.out).mono ?_;rintro e w1 ⟨rfl,rfl⟩))
     refine bodyPost_ret (results_none rfl _ _ _) rfl ?_
     exact ⟨⟨_,rfl⟩,HJ3.out.keep hlo1 HS.out (grown_alloc _ _ none) (by simp)⟩
   | true =>
     have HC:=hd_ hcn
     cases htk:takesB (encM M) r t.lv with
     | false =>
       have hres:readS kn R ⟨M,T,P⟩ i t=⟨M,T,P.set i (0,100000)⟩:=by simp [readS,readR,HF.out,htk]
       rw [hres]
       have HTK:=hd_ htk
       clear hres hcn htk
       go_enter Tryz.func120,Tryz.ntmps120
       go_wp2_with (first | (go_at_call 83;refine (HRC.out _ (by exact bel_)).mono ?_;rintro e w3 ⟨hb3,A1,n1,c1,rfl,hi1,hc1,hm1⟩;obtain ⟨hJ3,bA3,bT3,hz3⟩:=HFIN.out _ hb3;have hn1:n1≤1000000:=(by rw [← hi1.len];exact hr1);have HJ3:=hd_ hJ3;have HI1:=hd_ (hi1.now hb3);have kA:=bA3.cell;have zA:=bA3.lt;have kT:=bT3.cell;have zT:=bT3.lt;clear hi1 hJ3 hb3) | (go_at_call 119;refine (p_counts2 _ _ _ true _ HC.out).mono ?_;rintro e w1 ⟨rfl,rfl⟩) | (go_at_call 151;refine (p_takes_v (encM M) ⟨⟨pA,pn,pc,rA,rn,rc,some ⟨bR,oR,none⟩,tn,tc,sA,sn,sc⟩,kn,RA,Rn,Rc,SA,Sn,Sc,bm,some ⟨bt,0,none⟩,tn,Tc,some ⟨bp,0,none⟩,tn,Pc⟩ r t.lv A1 n1 c1 A2 n2 c2 _ _ hn2 hn1 (HJ3.out.m.alloc _) (HI1.out.now (by exact bel_)) (HI2.out _ (fun b o hb=>(HJ3.out.keep hlo1 HS.out (grown_alloc w3 (.cells #[.int .i64 r.src,.int .i64 r.bor,.int .i64 r.pap,.slice A1 n1 c1,.int .i64 r.day,.int .i64 r.kn,.int .i64 r.un] 79) none) (by simp)).cells HM0.out ⟨hB1,hB2,hB3⟩ b o hb) (by simp;omega)) HTW.out hr2 HTK.out).mono ?_;rintro e w4 ⟨rfl,hb4⟩;have bA4:=(bA3.alloc (.cells #[.int .i64 r.src,.int .i64 r.bor,.int .i64 r.pap,.slice A1 n1 c1,.int .i64 r.day,.int .i64 r.kn,.int .i64 r.un] 79)).ext hb4;have bT4:=(bT3.alloc (.cells #[.int .i64 r.src,.int .i64 r.bor,.int .i64 r.pap,.slice A1 n1 c1,.int .i64 r.day,.int .i64 r.kn,.int .i64 r.un] 79)).ext hb4;have bR4:=(BoxA.new w3 79 #[.int .i64 r.src,.int .i64 r.bor,.int .i64 r.pap,.slice A1 n1 c1,.int .i64 r.day,.int .i64 r.kn,.int .i64 r.un]).ext hb4;have hs4:=hb4.size;simp only [World.size_alloc] at hs4;have HJ4:=hd_ ((HJ3.out.keep hlo1 HS.out (grown_alloc w3 (.cells #[.int .i64 r.src,.int .i64 r.bor,.int .i64 r.pap,.slice A1 n1 c1,.int .i64 r.day,.int .i64 r.kn,.int .i64 r.un] 79) none) (by simp)).keep hlo1 HS.out (grown_of_below hb4) (by simp));clear kA zA kT zT;have kA:=bA4.cell;have zA:=bA4.lt;have kT:=bT4.cell;have zT:=bT4.lt;have kR:=bR4.cell;have zR:=bR4.lt))
       refine bodyPost_ret (results_none rfl _ _ _) rfl ?_
       exact ⟨⟨_,rfl⟩,(HJ3.out.keep hlo1 HS.out (grown_alloc _ _ none) (by simp)).keep hlo1 HS.out (grown_of_below hb4) (by simp)⟩
     | true =>
       have HTK:=hd_ htk
       cases hem:decide (t.hi<max t.lo (r.day+1)) with
       | true =>
         have hres:readS kn R ⟨M,T,P⟩ i t=⟨M,T,P.set i (0,100000)⟩:=by
          have:=of_decide_eq_true hem
          simp only [readS,readR,HF.out,hcn,htk,hem]
          rfl
         rw [hres]
         have HEM:=hd_ hem
         clear hres hcn htk hem
         go_enter Tryz.func120,Tryz.ntmps120
         go_wp2_with (first | (go_at_call 83;refine (HRC.out _ (by exact bel_)).mono ?_;rintro e w3 ⟨hb3,A1,n1,c1,rfl,hi1,hc1,hm1⟩;obtain ⟨hJ3,bA3,bT3,hz3⟩:=HFIN.out _ hb3;have hn1:n1≤1000000:=(by rw [← hi1.len];exact hr1);have HJ3:=hd_ hJ3;have HI1:=hd_ (hi1.now hb3);have kA:=bA3.cell;have zA:=bA3.lt;have kT:=bT3.cell;have zT:=bT3.lt;clear hi1 hJ3 hb3) | (go_at_call 119;refine (p_counts2 _ _ _ true _ HC.out).mono ?_;rintro e w1 ⟨rfl,rfl⟩) | (go_at_call 151;refine (p_takes_v (encM M) ⟨⟨pA,pn,pc,rA,rn,rc,some ⟨bR,oR,none⟩,tn,tc,sA,sn,sc⟩,kn,RA,Rn,Rc,SA,Sn,Sc,bm,some ⟨bt,0,none⟩,tn,Tc,some ⟨bp,0,none⟩,tn,Pc⟩ r t.lv A1 n1 c1 A2 n2 c2 _ _ hn2 hn1 (HJ3.out.m.alloc _) (HI1.out.now (by exact bel_)) (HI2.out _ (fun b o hb=>(HJ3.out.keep hlo1 HS.out (grown_alloc w3 (.cells #[.int .i64 r.src,.int .i64 r.bor,.int .i64 r.pap,.slice A1 n1 c1,.int .i64 r.day,.int .i64 r.kn,.int .i64 r.un] 79) none) (by simp)).cells HM0.out ⟨hB1,hB2,hB3⟩ b o hb) (by simp;omega)) HTW.out hr2 HTK.out).mono ?_;rintro e w4 ⟨rfl,hb4⟩;have bA4:=(bA3.alloc (.cells #[.int .i64 r.src,.int .i64 r.bor,.int .i64 r.pap,.slice A1 n1 c1,.int .i64 r.day,.int .i64 r.kn,.int .i64 r.un] 79)).ext hb4;have bT4:=(bT3.alloc (.cells #[.int .i64 r.src,.int .i64 r.bor,.int .i64 r.pap,.slice A1 n1 c1,.int .i64 r.day,.int .i64 r.kn,.int .i64 r.un] 79)).ext hb4;have bR4:=(BoxA.new w3 79 #[.int .i64 r.src,.int .i64 r.bor,.int .i64 r.pap,.slice A1 n1 c1,.int .i64 r.day,.int .i64 r.kn,.int .i64 r.un]).ext hb4;have hs4:=hb4.size;simp only [World.size_alloc] at hs4;have HJ4:=hd_ ((HJ3.out.keep hlo1 HS.out (grown_alloc w3 (.cells #[.int .i64 r.src,.int .i64 r.bor,.int .i64 r.pap,.slice A1 n1 c1,.int .i64 r.day,.int .i64 r.kn,.int .i64 r.un] 79) none) (by simp)).keep hlo1 HS.out (grown_of_below hb4) (by simp));clear kA zA kT zT;have kA:=bA4.cell;have zA:=bA4.lt;have kT:=bT4.cell;have zT:=bT4.lt;have kR:=bR4.cell;have zR:=bR4.lt) | (go_at_call 152;refine (p_behind w4.heap.size 0 t.lo r.day _ hr3 hr4 (new_frozen w4 _ _) ((BoxA.new w4 133 #[.int .i64 t.lo,.int .i64 t.hi]).cell 0)).mono ?_;rintro e w6 ⟨⟨v6,rfl⟩,hw6⟩;have nA:w.heap.size≠w4.heap.size:=(by omega);have nT:w.heap.size+1≠w4.heap.size:=(by omega);have nR:w3.heap.size≠w4.heap.size:=(by omega);have bA6:BoxA w6 w.heap.size 115 #[.slice pA pn pc,.slice rA rn rc,.slice (some ⟨bR,oR,none⟩) tn tc,.slice sA sn sc,.int .i64 kn,.slice RA Rn Rc,.slice SA Sn Sc,.map (some bm),.slice (some ⟨bt,0,none⟩) tn Tc,.slice (some ⟨bp,0,none⟩) tn Pc]:=(by rw [hw6];exact (bA4.alloc _).other nA _);have bT6:BoxA w6 (w.heap.size+1) 75 #[.int .i64 t.src,.int .i64 t.rcp,.int .i64 t.per,.slice A2 n2 c2,.int .i64 t.lo,.int .i64 t.hi,.int .i64 t.kn,.int .i64 t.un]:=(by rw [hw6];exact (bT4.alloc _).other nT _);have bR6:BoxA w6 w3.heap.size 79 #[.int .i64 r.src,.int .i64 r.bor,.int .i64 r.pap,.slice A1 n1 c1,.int .i64 r.day,.int .i64 r.kn,.int .i64 r.un]:=(by rw [hw6];exact (bR4.alloc _).other nR _);have bD6:BoxA w6 w4.heap.size 133 #[.int .i64 (max t.lo (r.day+1)),.int .i64 t.hi]:=(by rw [hw6];exact (BoxA.new w4 _ _).set 0 _);have hs6:w4.heap.size<w6.heap.size:=bD6.lt;have HJ6:Hid (RdJ lo bm bp bt M T (P.set i (0,100000)) w w6):=(by show RdJ _ _ _ _ _ _ _ _ _;rw [hw6];exact (HJ4.out.keep hlo1 HS.out (grown_alloc w4 _ none) (by simp)).keep hlo1 HS.out (grown_setCell _ w4.heap.size 0 _) (fun r e=>by cases e;omega));clear kA zA kT zT kR zR hw6;have kA:=bA6.cell;have zA:=bA6.lt;have kT:=bT6.cell;have zT:=bT6.lt;have kR:=bR6.cell;have zR:=bR6.lt;have kD:=bD6.cell;have zD:=bD6.lt) | (go_at_call 153;refine (p_empty_v (max t.lo (r.day+1)) t.hi _ _ HEM.out).mono ?_;rintro e w7 ⟨rfl,hb7⟩))
         refine bodyPost_ret (results_none rfl _ _ _) rfl ?_
         exact ⟨⟨_,rfl⟩,HJ6.out.keep hlo1 HS.out (grown_of_below hb7) (by simp)⟩
       | false=>exact absurd hno (by simp only [readR,HF.out,hcn,htk,hem];simp)
end Go.Proofs.YtmcmbicapdcfmaaGreat
