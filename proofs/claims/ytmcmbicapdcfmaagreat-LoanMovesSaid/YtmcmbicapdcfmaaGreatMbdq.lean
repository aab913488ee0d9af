/- Layer 2 of the texts that LoanMoves takes: Mbdq. -/
import Derived.Test.YtmcmbicapdcfmaaGreatMbcq
set_option linter.unusedVariables false
set_option linter.unusedSimpArgs false
set_option maxHeartbeats 16000000
namespace Go.Proofs.YtmcmbicapdcfmaaGreat
open Go.RowKit Go.Maps
theorem wp_region_held_lit {P:Program} {Q:Exit→Act→World→Prop} {S:World→Prop} {id:Nat} {a:Act} {w:World} {l:List Oper} (n:Nat) (hm:P.follows .mixedOrders=true) (hn:l.length=n)
 (hS:S w.drew) (h:S w.drew→wpAnyH P .any l.toArray Q S n (Array.replicate n false) a w.drew):(Code.region id l.toArray true).wp P Q a w :=
 wp_region_held_drew hm hS (fun hS=>by subst hn;simpa using h hS)
theorem S1.grown {b1 b2 B:Nat} {c1 c2:Array Value} {V V':World} (hg:V.grownBy V' (some B)) (h:S1 b1 b2 c1 c2 V) (n1:b1≠B) (n2:b2≠B):S1 b1 b2 c1 c2 V':=by
 obtain ⟨h1,h2,z1,z2⟩:=h
 have e1:=hg.block b1 z1 (fun e=>n1 (by injection e))
 have e2:=hg.block b2 z2 (fun e=>n2 (by injection e))
 have hs:=hg.size
 refine ⟨fun o=>?_,fun o=>?_,by omega,by omega⟩
 ·rw [← h1 o];simp [World.cell?,e1]
 ·rw [← h2 o];simp [World.cell?,e2]
theorem own_other {w w':World} {base base' size size' n n':Nat} {e e':TypeId} {v v':Value} {xs xs':List Value} (h:w.ownsRow base e size v n xs) (h':w.ownsRow base' e' size' v' n' xs') (he:e≠e') (hg:w.grownBy w' v'.ownBlock):w'.ownsRow base e size v n xs:=h.kept hg (by
 cases hb:v.ownBlock with
 | none=>exact .inl rfl
 | some b =>
   refine .inr fun e1=>?_
   obtain ⟨c1,h1⟩:=own_block h hb
   obtain ⟨c2,h2⟩:=own_block h' e1.symm
   rw [h1] at h2
   injection h2 with h2
   injection h2 with _ h3
   exact he h3)
abbrev ppC (p:Ppr):List Value:=[.int .i64 p.id,.int .i64 p.lv]
theorem sq_pp {w:World} {B n:Nat} {A:Option Addr} {xs:List Ppr} (h:Rd w B 2 A n (xs.flatMap ppC)) (hn:xs.length=n):Pps w B A n xs:=by
 refine ⟨hn,fun h0=>?_⟩
 obtain ⟨b,o,e,hb,hc⟩:=h.2 h0
 refine ⟨b,o,e,hb,fun k v hk=>?_⟩
 have g:∀ j u,j<2→(ppC v)[j]?=some u→w.cell? ⟨b,o+k*2+j,none⟩=some u:=fun j u hj hu=>by
  have:=hc (k*2+j) u (by rw [← hu];exact flat_get ppC 2 (fun _=>rfl) xs k j v hk hj)
  rwa [← Nat.add_assoc] at this
 exact ⟨g 0 _ (by omega) rfl,g 1 _ (by omega) rfl⟩
theorem rcs_of {w:World} {B n:Nat} {A:Option Addr} {xs:List Rv} (h:Sq QV 7 w B A n xs):Rcs w B A n (xs.map Rv.r):=by
 refine ⟨by rw [List.length_map];exact h.1,fun h0=>?_⟩
 obtain ⟨b,o,e,hb,hc⟩:=h.2 h0
 refine ⟨b,o,e,hb,fun k r hk=>?_⟩
 rw [List.getElem?_map] at hk
 obtain ⟨v,hv,rfl⟩:=Option.map_eq_some_iff.1 hk
 obtain ⟨h1,h2⟩:=hc k v hv
 exact ⟨v.A,v.n,v.c,h1,h2⟩
theorem rts_of {w:World} {B n:Nat} {A:Option Addr} {xs:List Tv} (h:Rd w B 8 A n (xs.flatMap tvC)) (hn:xs.length=n) (hv:∀ v∈xs,Is w B v.A v.n v.r.lv∧v.n≤v.c∧v.c≤maxLen):Rts w B A n (xs.map Tv.r):=by
 refine ⟨by rw [List.length_map];exact hn,fun h0=>?_⟩
 obtain ⟨b,o,e,hb,hc⟩:=h.2 h0
 refine ⟨b,o,e,hb,fun k r hk=>?_⟩
 rw [List.getElem?_map] at hk
 obtain ⟨v,hv2,rfl⟩:=Option.map_eq_some_iff.1 hk
 have g:∀ j u,j<8→(tvC v)[j]?=some u→w.cell? ⟨b,o+k*8+j,none⟩=some u:=fun j u hj hu=>by
  have:=hc (k*8+j) u (by rw [← hu];exact flat_get tvC 8 (fun _=>rfl) xs k j v hv2 hj)
  rwa [← Nat.add_assoc] at this
 exact ⟨v.A,v.n,v.c,⟨g 0 _ (by omega) rfl,g 1 _ (by omega) rfl,g 2 _ (by omega) rfl,g 3 _ (by omega) rfl,g 4 _ (by omega) rfl,g 5 _ (by omega) rfl,g 6 _ (by omega) rfl,g 7 _ (by omega) rfl⟩,hv v (List.mem_of_getElem? hv2)⟩
theorem rd_rv {w:World} {B n:Nat} {A:Option Addr} {xs:List Rv} (h:Sq QV 7 w B A n xs):Rd w B 7 A n (xs.flatMap rvC):=by
 by_cases h0:0<n
 ·obtain ⟨b,o,e,hb,hc⟩:=h.2 h0
  subst e
  refine rd_flat rvC 7 (fun _=>rfl) (by omega) h.1 hb fun k x hx m u hm hu=>?_
  obtain ⟨⟨a0,a1,a2,a3,a4,a5,a6⟩,_⟩:=hc k x hx
  match m,hm,hu with
  | 0,_,hu=>cases hu;exact a0
  | 1,_,hu=>cases hu;exact a1
  | 2,_,hu=>cases hu;exact a2
  | 3,_,hu=>cases hu;exact a3
  | 4,_,hu=>cases hu;exact a4
  | 5,_,hu=>cases hu;exact a5
  | 6,_,hu=>cases hu;exact a6
 ·have hn:n=0:=by omega
  subst hn
  have hx:xs=[]:=List.eq_nil_of_length_eq_zero h.1
  subst hx
  exact ⟨rfl,fun h=>absurd h (by omega)⟩
theorem rd_pp {w:World} {B n:Nat} {A:Option Addr} {xs:List Ppr} (h:Pps w B A n xs):Rd w B 2 A n (xs.flatMap ppC):=by
 by_cases h0:0<n
 ·obtain ⟨b,o,e,hb,hc⟩:=h.2 h0
  subst e
  refine rd_flat ppC 2 (fun _=>rfl) (by omega) h.1 hb fun k x hx m u hm hu=>?_
  obtain ⟨a0,a1⟩:=hc k x hx
  match m,hm,hu with
  | 0,_,hu=>cases hu;exact a0
  | 1,_,hu=>cases hu;exact a1
 ·have hn:n=0:=by omega
  subst hn
  have hx:xs=[]:=List.eq_nil_of_length_eq_zero h.1
  subst hx
  exact ⟨rfl,fun h=>absurd h (by omega)⟩
theorem rd_sg {w:World} {B n:Nat} {A:Option Addr} {xs:List Sgt} (h:Sgs w B A n xs):Rd w B 7 A n (xs.flatMap sgC):=by
 by_cases h0:0<n
 ·obtain ⟨b,o,e,hb,hc⟩:=h.2 h0
  subst e
  refine rd_flat sgC 7 (fun _=>rfl) (by omega) h.1 hb fun k x hx m u hm hu=>?_
  obtain ⟨a0,a1,a2,a3,a4,a5,a6⟩:=hc k x hx
  match m,hm,hu with
  | 0,_,hu=>cases hu;exact a0
  | 1,_,hu=>cases hu;exact a1
  | 2,_,hu=>cases hu;exact a2
  | 3,_,hu=>cases hu;exact a3
  | 4,_,hu=>cases hu;exact a4
  | 5,_,hu=>cases hu;exact a5
  | 6,_,hu=>cases hu;exact a6
 ·have hn:n=0:=by omega
  subst hn
  have hx:xs=[]:=List.eq_nil_of_length_eq_zero h.1
  subst hx
  exact ⟨rfl,fun h=>absurd h (by omega)⟩
theorem flat_ones {α:Type} {f:α→List Value} (h:∀ x,∀ u∈f x,u.oneCell'=true) (xs:List α):∀ u∈xs.flatMap f,u.oneCell'=true:=by
 intro u hu
 obtain ⟨x,_,hx⟩:=List.mem_flatMap.1 hu
 exact h x u hx
theorem flat_set {α:Type} (f:α→List Value) (s:Nat) (hs:∀ x,(f x).length=s):∀ (xs:List α) (k j:Nat) (x:α) (u:Value),k<xs.length→j<s→xs[k]?.map (fun y=>(f y).set j u)=some (f x)→(xs.flatMap f).set (k*s+j) u=(xs.set k x).flatMap f
 | [],k,j,x,u,hk,_,_=>by simp at hk
 | y :: xs,0,j,x,u,_,hj,h=>by
   simp at h
   rw [List.set_cons_zero,List.flatMap_cons,List.flatMap_cons,Nat.zero_mul,Nat.zero_add,List.set_append_left _ _ (by rw [hs];exact hj),h]
 | y :: xs,k+1,j,x,u,hk,hj,h=>by
   have e:(k+1)*s+j - s=k*s+j:=by rw [Nat.succ_mul];omega
   rw [List.set_cons_succ,List.flatMap_cons,List.flatMap_cons,List.set_append_right _ _ (by rw [hs,Nat.succ_mul];omega),hs,e,flat_set f s hs xs k j x u (by simpa using hk) hj (by simpa using h)]
structure Cop (W:World) (base:Nat) (y:Lsl) (pp:List Ppr) (rvs:List Rv) (tvs:List Tv) (sg:List Sgt):Prop where
 p:W.ownsRow base 38 2 (.slice y.pA y.pn y.pc) y.pn (pp.flatMap ppC)
 r:W.ownsRow base 79 7 (.slice y.rA y.rn y.rc) y.rn (rvs.flatMap rvC)
 t:W.ownsRow base 75 8 (.slice y.tA y.tn y.tc) y.tn (tvs.flatMap tvC)
 s:W.ownsRow base 70 7 (.slice y.sA y.sn y.sc) y.sn (sg.flatMap sgC)
 rl:∀ v∈rvs,W.ownsRow base 3 1 (.slice v.A v.n v.c) v.n (intL v.r.lv)
 tl:∀ v∈tvs,W.ownsRow base 3 1 (.slice v.A v.n v.c) v.n (intL v.r.lv)
theorem own_len {W:World} {base n s:Nat} {t:TypeId} {v:Value} {α:Type} {f:α→List Value} {xs:List α} (h:W.ownsRow base t s v n (xs.flatMap f)) (hs:∀ x,(f x).length=s) (h0:0<s):xs.length=n:=by
 have h1:=h.1
 rw [flat_len f s hs] at h1
 exact Nat.eq_of_mul_eq_mul_right h0 h1
theorem own_fit {W:World} {base n s c:Nat} {t:TypeId} {A:Option Addr} {xs:List Value} (h:W.ownsRow base t s (.slice A n c) n xs):n≤c∧c≤maxLen:=by
 obtain ⟨A',c',e,h1⟩:=own_slice h
 cases e
 exact h1
theorem Cop.fit {W:World} {base:Nat} {y:Lsl} {pp:List Ppr} {rvs:List Rv} {tvs:List Tv} {sg:List Sgt} (h:Cop W base y pp rvs tvs sg):y.fit:=⟨own_fit h.p,own_fit h.r,own_fit h.t,own_fit h.s⟩
theorem Cop.led {W:World} {base:Nat} {y:Lsl} {pp:List Ppr} {rvs:List Rv} {tvs:List Tv} {sg:List Sgt} (h:Cop W base y pp rvs tvs sg):LedIn W W.heap.size y ⟨pp,rvs.map Rv.r,tvs.map Tv.r,sg⟩ :=
 ⟨sq_pp (Rd.of_own h.p) (own_len h.p (fun _=>rfl) (by omega)),rcs_of (sq_rv (Rd.of_own h.r) (own_len h.r (fun _=>rfl) (by omega)) fun v hv=>⟨Rd.of_own (h.rl v hv),own_fit (h.rl v hv)⟩),
   rts_of (Rd.of_own h.t) (own_len h.t (fun _=>rfl) (by omega)) (fun v hv=>⟨Rd.of_own (h.tl v hv),own_fit (h.tl v hv)⟩),sq_sg (Rd.of_own h.s) (own_len h.s (fun _=>rfl) (by omega))⟩
theorem Cop.ext {W W':World} {base:Nat} {y:Lsl} {pp:List Ppr} {rvs:List Rv} {tvs:List Tv} {sg:List Sgt} (h:Cop W base y pp rvs tvs sg) (hb:Below W.heap.size W W'):Cop W' base y pp rvs tvs sg :=
 ⟨own_ex h.p hb,own_ex h.r hb,own_ex h.t hb,own_ex h.s hb,fun v hv=>own_ex (h.rl v hv) hb,fun v hv=>own_ex (h.tl v hv) hb⟩
theorem own_cset {w:World} {base size n B o:Nat} {t:TypeId} {v:Value} {xs:List Value} (h:w.ownsRow base t size v n xs) (u:Value) (hB:B<base):(w.setCell ⟨B,o,none⟩ u).ownsRow base t size v n xs :=
 own_keep h fun b hb=>Below.heap_setCell _ _ _ _ (show b≠B by have:=own_le h hb;omega)
theorem Cop.dn {W:World} {base base':Nat} {y:Lsl} {pp:List Ppr} {rvs:List Rv} {tvs:List Tv} {sg:List Sgt} (h:Cop W base y pp rvs tvs sg) (hb:base'≤base):Cop W base' y pp rvs tvs sg :=
 ⟨own_dn h.p hb,own_dn h.r hb,own_dn h.t hb,own_dn h.s hb,fun v hv=>own_dn (h.rl v hv) hb,fun v hv=>own_dn (h.tl v hv) hb⟩
theorem Cop.cset {W:World} {base:Nat} {y:Lsl} {pp:List Ppr} {rvs:List Rv} {tvs:List Tv} {sg:List Sgt} (h:Cop W base y pp rvs tvs sg) {B o:Nat} (u:Value) (hB:B<base):Cop (W.setCell ⟨B,o,none⟩ u) base y pp rvs tvs sg :=
 ⟨own_cset h.p u hB,own_cset h.r u hB,own_cset h.t u hB,own_cset h.s u hB,fun v hv=>own_cset (h.rl v hv) u hB,fun v hv=>own_cset (h.tl v hv) u hB⟩
theorem Cop.kept {W W':World} {base B:Nat} {cs:Array Value} {y:Lsl} {pp:List Ppr} {rvs:List Rv} {tvs:List Tv} {sg:List Sgt} (h:Cop W base y pp rvs tvs sg) (hb:BoxA W B 32 cs) (hg:W.grownBy W' (some B)):Cop W' base y pp rvs tvs sg :=
 ⟨h.p.kept hg (.inr fun e=>own_ne h.p hb (by decide) e.symm),h.r.kept hg (.inr fun e=>own_ne h.r hb (by decide) e.symm),h.t.kept hg (.inr fun e=>own_ne h.t hb (by decide) e.symm),h.s.kept hg (.inr fun e=>own_ne h.s hb (by decide) e.symm),
   fun v hv=>(h.rl v hv).kept hg (.inr fun e=>own_ne (h.rl v hv) hb (by decide) e.symm),fun v hv=>(h.tl v hv).kept hg (.inr fun e=>own_ne (h.tl v hv) hb (by decide) e.symm)⟩
theorem ty_ne:38≠79∧38≠75∧38≠70∧79≠75∧79≠70∧75≠70∧3≠38∧3≠79∧3≠75∧3≠70:=by decide
theorem infoClPaper:(Tryz.prog.info? 38).map (fun i=>(i.zero,i.size,i.bytes))=some (some (.agg #[.int .i64 0,.int .i64 0]),2,16):=by kernel_rfl
set_option maxRecDepth 100000 in
theorem p_ClPaper (news:List Value) (A:Option Addr) (n c:Nat) (w:World) (hn:n≤100000) (hr:Rd w w.heap.size 2 A n news) (h1:∀ u∈news,u.oneCell'=true) :
 Calls Tryz.prog 129 #[.slice A n c] w (RetRow 38 2 n news w):=by
 obtain ⟨i0,hi,hz0,hz1,hz2⟩:=info_parts infoClPaper
 have qT:∀ (w:World) (a:Option Addr) (n c n' c':Nat),(binOp .eql 27 (.slice a n c) (.slice none n' c')).run Tryz.prog w=.ok (.bool a.isNone) w:=fun w a n c n' c'=>Lib.run_eql_slice_nil w _ _ a n c n' c' Tryz.underlying27
 cases A with
 | none =>
   have hn0:n=0:=by
    rcases Nat.eq_zero_or_pos n with h | h
    ·exact h
    ·obtain ⟨_,_,e,_⟩:=hr.2 h;cases e
   subst hn0
   obtain rfl:news=[]:=List.eq_nil_of_length_eq_zero (by have:=hr.1;omega)
   go_enter Tryz.func129,Tryz.ntmps129
   go_wp2
   go_ret
   exact ⟨_,rfl,Below.refl _ _,World.ownsRow_nil _ _ _ _⟩
 | some p =>
   have HR:=hd_ hr
   have H1:=hd_ h1
   clear hr h1
   go_enter Tryz.func129,Tryz.ntmps129
   go_wp2_with (at_builtin;refine wpList_app2 rfl (.tmp 5) (.tmp 6) 27 rfl (base:=w.heap.size) (B:=w.heap.size) (e:=38) (i:=i0) (size:=2) (bytes:=16) Tryz.underlying27 hi hz0 hz1 hz2 rfl (by decide) rfl rfl (n:=0) (xs:=[]) (own_emptyB2 w 38 2 w.heap.size lr_) (m:=n) (news:=news) (HR.out.alloc lr_ _) H1.out (by unfold maxLen;omega) (by omega) (by simp) ?_;intro v2 w2 hown2 hgrow2 hb2)
   go_ret
   refine ⟨v2,rfl,(show Below w.heap.size w (w.alloc (.cells #[] 38)) by exact bel_).trans hb2,?_⟩
   have h:=hown2
   simp only [Nat.zero_add,List.nil_append] at h
   exact h
theorem infoClInt2:(Tryz.prog.info? 3).map (fun i=>(i.zero,i.size,i.bytes))=some (some (.int .i64 0),1,8):=by kernel_rfl
set_option maxRecDepth 100000 in
theorem p_ClInt2 (news:List Value) (A:Option Addr) (n c:Nat) (w:World) (hn:n≤100000) (hr:Rd w w.heap.size 1 A n news) (h1:∀ u∈news,u.oneCell'=true) :
 Calls Tryz.prog 131 #[.slice A n c] w (RetRow 3 1 n news w):=by
 obtain ⟨i0,hi,hz0,hz1,hz2⟩:=info_parts infoClInt2
 have qT:∀ (w:World) (a:Option Addr) (n c n' c':Nat),(binOp .eql 33 (.slice a n c) (.slice none n' c')).run Tryz.prog w=.ok (.bool a.isNone) w:=fun w a n c n' c'=>Lib.run_eql_slice_nil w _ _ a n c n' c' Tryz.underlying33
 cases A with
 | none =>
   have hn0:n=0:=by
    rcases Nat.eq_zero_or_pos n with h | h
    ·exact h
    ·obtain ⟨_,_,e,_⟩:=hr.2 h;cases e
   subst hn0
   obtain rfl:news=[]:=List.eq_nil_of_length_eq_zero (by have:=hr.1;omega)
   go_enter Tryz.func131,Tryz.ntmps131
   go_wp2
   go_ret
   exact ⟨_,rfl,Below.refl _ _,World.ownsRow_nil _ _ _ _⟩
 | some p =>
   have HR:=hd_ hr
   have H1:=hd_ h1
   clear hr h1
   go_enter Tryz.func131,Tryz.ntmps131
   go_wp2_with (at_builtin;refine wpList_app2 rfl (.tmp 5) (.tmp 6) 33 rfl (base:=w.heap.size) (B:=w.heap.size) (e:=3) (i:=i0) (size:=1) (bytes:=8) Tryz.underlying33 hi hz0 hz1 hz2 rfl (by decide) rfl rfl (n:=0) (xs:=[]) (own_emptyB2 w 3 1 w.heap.size lr_) (m:=n) (news:=news) (HR.out.alloc lr_ _) H1.out (by unfold maxLen;omega) (by omega) (by simp) ?_;intro v2 w2 hown2 hgrow2 hb2)
   go_ret
   refine ⟨v2,rfl,(show Below w.heap.size w (w.alloc (.cells #[] 3)) by exact bel_).trans hb2,?_⟩
   have h:=hown2
   simp only [Nat.zero_add,List.nil_append] at h
   exact h
theorem infoClSight:(Tryz.prog.info? 70).map (fun i=>(i.zero,i.size,i.bytes))=some (some (.agg #[.int .i64 0,.int .i64 0,.int .i64 0,.int .i64 0,.int .i64 0,.int .i64 0,.int .i64 0]),7,56):=by kernel_rfl
set_option maxRecDepth 100000 in
theorem p_ClSight (news:List Value) (A:Option Addr) (n c:Nat) (w:World) (hn:n≤100000) (hr:Rd w w.heap.size 7 A n news) (h1:∀ u∈news,u.oneCell'=true) :
 Calls Tryz.prog 133 #[.slice A n c] w (RetRow 70 7 n news w):=by
 obtain ⟨i0,hi,hz0,hz1,hz2⟩:=info_parts infoClSight
 have qT:∀ (w:World) (a:Option Addr) (n c n' c':Nat),(binOp .eql 30 (.slice a n c) (.slice none n' c')).run Tryz.prog w=.ok (.bool a.isNone) w:=fun w a n c n' c'=>Lib.run_eql_slice_nil w _ _ a n c n' c' Tryz.underlying30
 cases A with
 | none =>
   have hn0:n=0:=by
    rcases Nat.eq_zero_or_pos n with h | h
    ·exact h
    ·obtain ⟨_,_,e,_⟩:=hr.2 h;cases e
   subst hn0
   obtain rfl:news=[]:=List.eq_nil_of_length_eq_zero (by have:=hr.1;omega)
   go_enter Tryz.func133,Tryz.ntmps133
   go_wp2
   go_ret
   exact ⟨_,rfl,Below.refl _ _,World.ownsRow_nil _ _ _ _⟩
 | some p =>
   have HR:=hd_ hr
   have H1:=hd_ h1
   clear hr h1
   go_enter Tryz.func133,Tryz.ntmps133
   go_wp2_with (at_builtin;refine wpList_app2 rfl (.tmp 5) (.tmp 6) 30 rfl (base:=w.heap.size) (B:=w.heap.size) (e:=70) (i:=i0) (size:=7) (bytes:=56) Tryz.underlying30 hi hz0 hz1 hz2 rfl (by decide) rfl rfl (n:=0) (xs:=[]) (own_emptyB2 w 70 7 w.heap.size lr_) (m:=n) (news:=news) (HR.out.alloc lr_ _) H1.out (by unfold maxLen;omega) (by omega) (by simp) ?_;intro v2 w2 hown2 hgrow2 hb2)
   go_ret
   refine ⟨v2,rfl,(show Below w.heap.size w (w.alloc (.cells #[] 70)) by exact bel_).trans hb2,?_⟩
   have h:=hown2
   simp only [Nat.zero_add,List.nil_append] at h
   exact h
theorem infoClRcpt:(Tryz.prog.info? 79).map (fun i=>(i.zero,i.size,i.bytes))=some (some (.agg #[.int .i64 0,.int .i64 0,.int .i64 0,.slice none 0 0,.int .i64 0,.int .i64 0,.int .i64 0]),7,72):=by kernel_rfl
set_option maxRecDepth 100000 in
theorem p_ClRcpt (news:List Value) (A:Option Addr) (n c:Nat) (w:World) (hn:n≤100000) (hr:Rd w w.heap.size 7 A n news) (h1:∀ u∈news,u.oneCell'=true) :
 Calls Tryz.prog 130 #[.slice A n c] w (RetRow 79 7 n news w):=by
 obtain ⟨i0,hi,hz0,hz1,hz2⟩:=info_parts infoClRcpt
 have qT:∀ (w:World) (a:Option Addr) (n c n' c':Nat),(binOp .eql 28 (.slice a n c) (.slice none n' c')).run Tryz.prog w=.ok (.bool a.isNone) w:=fun w a n c n' c'=>Lib.run_eql_slice_nil w _ _ a n c n' c' Tryz.underlying28
 cases A with
 | none =>
   have hn0:n=0:=by
    rcases Nat.eq_zero_or_pos n with h | h
    ·exact h
    ·obtain ⟨_,_,e,_⟩:=hr.2 h;cases e
   subst hn0
   obtain rfl:news=[]:=List.eq_nil_of_length_eq_zero (by have:=hr.1;omega)
   go_enter Tryz.func130,Tryz.ntmps130
   go_wp2
   go_ret
   exact ⟨_,rfl,Below.refl _ _,World.ownsRow_nil _ _ _ _⟩
 | some p =>
   have HR:=hd_ hr
   have H1:=hd_ h1
   clear hr h1
   go_enter Tryz.func130,Tryz.ntmps130
   go_wp2_with (at_builtin;refine wpList_app2 rfl (.tmp 5) (.tmp 6) 28 rfl (base:=w.heap.size) (B:=w.heap.size) (e:=79) (i:=i0) (size:=7) (bytes:=72) Tryz.underlying28 hi hz0 hz1 hz2 rfl (by decide) rfl rfl (n:=0) (xs:=[]) (own_emptyB2 w 79 7 w.heap.size lr_) (m:=n) (news:=news) (HR.out.alloc lr_ _) H1.out (by unfold maxLen;omega) (by omega) (by simp) ?_;intro v2 w2 hown2 hgrow2 hb2)
   go_ret
   refine ⟨v2,rfl,(show Below w.heap.size w (w.alloc (.cells #[] 79)) by exact bel_).trans hb2,?_⟩
   have h:=hown2
   simp only [Nat.zero_add,List.nil_append] at h
   exact h
theorem infoClRetn:(Tryz.prog.info? 75).map (fun i=>(i.zero,i.size,i.bytes))=some (some (.agg #[.int .i64 0,.int .i64 0,.int .i64 0,.slice none 0 0,.int .i64 0,.int .i64 0,.int .i64 0,.int .i64 0]),8,80):=by kernel_rfl
set_option maxRecDepth 100000 in
theorem p_ClRetn (news:List Value) (A:Option Addr) (n c:Nat) (w:World) (hn:n≤100000) (hr:Rd w w.heap.size 8 A n news) (h1:∀ u∈news,u.oneCell'=true) :
 Calls Tryz.prog 132 #[.slice A n c] w (RetRow 75 8 n news w):=by
 obtain ⟨i0,hi,hz0,hz1,hz2⟩:=info_parts infoClRetn
 have qT:∀ (w:World) (a:Option Addr) (n c n' c':Nat),(binOp .eql 29 (.slice a n c) (.slice none n' c')).run Tryz.prog w=.ok (.bool a.isNone) w:=fun w a n c n' c'=>Lib.run_eql_slice_nil w _ _ a n c n' c' Tryz.underlying29
 cases A with
 | none =>
   have hn0:n=0:=by
    rcases Nat.eq_zero_or_pos n with h | h
    ·exact h
    ·obtain ⟨_,_,e,_⟩:=hr.2 h;cases e
   subst hn0
   obtain rfl:news=[]:=List.eq_nil_of_length_eq_zero (by have:=hr.1;omega)
   go_enter Tryz.func132,Tryz.ntmps132
   go_wp2
   go_ret
   exact ⟨_,rfl,Below.refl _ _,World.ownsRow_nil _ _ _ _⟩
 | some p =>
   have HR:=hd_ hr
   have H1:=hd_ h1
   clear hr h1
   go_enter Tryz.func132,Tryz.ntmps132
   go_wp2_with (at_builtin;refine wpList_app2 rfl (.tmp 5) (.tmp 6) 29 rfl (base:=w.heap.size) (B:=w.heap.size) (e:=75) (i:=i0) (size:=8) (bytes:=80) Tryz.underlying29 hi hz0 hz1 hz2 rfl (by decide) rfl rfl (n:=0) (xs:=[]) (own_emptyB2 w 75 8 w.heap.size lr_) (m:=n) (news:=news) (HR.out.alloc lr_ _) H1.out (by unfold maxLen;omega) (by omega) (by simp) ?_;intro v2 w2 hown2 hgrow2 hb2)
   go_ret
   refine ⟨v2,rfl,(show Below w.heap.size w (w.alloc (.cells #[] 75)) by exact bel_).trans hb2,?_⟩
   have h:=hown2
   simp only [Nat.zero_add,List.nil_append] at h
   exact h
structure CpR (W:World) (base:Nat) (xs ys:List Rv) (k:Nat):Prop where
 r:ys.map Rv.r=xs.map Rv.r
 new:∀ (j:Nat) (v:Rv),j<k→ys[j]?=some v→W.ownsRow base 3 1 (.slice v.A v.n v.c) v.n (intL v.r.lv)
 old:∀ j,k≤j→ys[j]?=xs[j]?
theorem CpR.ext {W W':World} {base k:Nat} {xs ys:List Rv} (h:CpR W base xs ys k) (hb:Below W.heap.size W W'):CpR W' base xs ys k:=⟨h.r,fun j v hj hv=>own_ex (h.new j v hj hv) hb,h.old⟩
theorem CpR.kept {W W':World} {base k:Nat} {xs ys:List Rv} (h:CpR W base xs ys k) {g:Nat} {cs:Array Value} {t:TypeId} (hg:W.heap[g]?=some (.cells cs t (0,0))) (ht:t≠3) (hk:∀ b,b≠g→W'.heap[b]?=W.heap[b]?):CpR W' base xs ys k :=
 ⟨h.r,fun j v hj hv=>own_keep (h.new j v hj hv) fun b hb=>hk b fun e=>own_ne (h.new j v hj hv) hg ht (e ▸ hb.symm),h.old⟩
theorem CpR.step {W:World} {base k n c:Nat} {xs ys:List Rv} {A:Option Addr} {x:Rv} (h:CpR W base xs ys k) (hx:ys[k]?=some x) (ho:W.ownsRow base 3 1 (.slice A n c) n (intL x.r.lv)):CpR W base xs (ys.set k ⟨x.r,A,n,c⟩) (k+1):=by
 have hk:k<ys.length:=(List.getElem?_eq_some_iff.1 hx).1
 refine ⟨?_,fun j v hj hv=>?_,fun j hj=>?_⟩
 ·rw [← h.r]
  apply List.ext_getElem?
  intro i
  rw [List.getElem?_map,List.getElem?_map,List.getElem?_set]
  split
  ·rename_i e
   subst e
   try rw [if_pos hk]
   rw [hx]
   rfl
  ·rfl
 ·rw [List.getElem?_set] at hv
  split at hv
  ·try rw [if_pos hk] at hv
   cases hv
   exact ho
  ·exact h.new j v (by omega) hv
 ·rw [List.getElem?_set,if_neg (by omega)]
  exact h.old j (by omega)
structure CpT (W:World) (base:Nat) (xs ys:List Tv) (k:Nat):Prop where
 r:ys.map Tv.r=xs.map Tv.r
 new:∀ (j:Nat) (v:Tv),j<k→ys[j]?=some v→W.ownsRow base 3 1 (.slice v.A v.n v.c) v.n (intL v.r.lv)
 old:∀ j,k≤j→ys[j]?=xs[j]?
theorem CpT.ext {W W':World} {base k:Nat} {xs ys:List Tv} (h:CpT W base xs ys k) (hb:Below W.heap.size W W'):CpT W' base xs ys k:=⟨h.r,fun j v hj hv=>own_ex (h.new j v hj hv) hb,h.old⟩
theorem CpT.kept {W W':World} {base k:Nat} {xs ys:List Tv} (h:CpT W base xs ys k) {g:Nat} {cs:Array Value} {t:TypeId} (hg:W.heap[g]?=some (.cells cs t (0,0))) (ht:t≠3) (hk:∀ b,b≠g→W'.heap[b]?=W.heap[b]?):CpT W' base xs ys k :=
 ⟨h.r,fun j v hj hv=>own_keep (h.new j v hj hv) fun b hb=>hk b fun e=>own_ne (h.new j v hj hv) hg ht (e ▸ hb.symm),h.old⟩
theorem CpT.step {W:World} {base k n c:Nat} {xs ys:List Tv} {A:Option Addr} {x:Tv} (h:CpT W base xs ys k) (hx:ys[k]?=some x) (ho:W.ownsRow base 3 1 (.slice A n c) n (intL x.r.lv)):CpT W base xs (ys.set k ⟨x.r,A,n,c⟩) (k+1):=by
 have hk:k<ys.length:=(List.getElem?_eq_some_iff.1 hx).1
 refine ⟨?_,fun j v hj hv=>?_,fun j hj=>?_⟩
 ·rw [← h.r]
  apply List.ext_getElem?
  intro i
  rw [List.getElem?_map,List.getElem?_map,List.getElem?_set]
  split
  ·rename_i e
   subst e
   try rw [if_pos hk]
   rw [hx]
   rfl
  ·rfl
 ·rw [List.getElem?_set] at hv
  split at hv
  ·try rw [if_pos hk] at hv
   cases hv
   exact ho
  ·exact h.new j v (by omega) hv
 ·rw [List.getElem?_set,if_neg (by omega)]
  exact h.old j (by omega)
theorem CpR.done {W:World} {base n:Nat} {xs ys:List Rv} (h:CpR W base xs ys n) (hn:ys.length=n):∀ v∈ys,W.ownsRow base 3 1 (.slice v.A v.n v.c) v.n (intL v.r.lv):=fun v hv=>by
 obtain ⟨k,hk⟩:=List.getElem?_of_mem hv
 exact h.new k v (by have:=(List.getElem?_eq_some_iff.1 hk).1;omega) hk
theorem CpT.done {W:World} {base n:Nat} {xs ys:List Tv} (h:CpT W base xs ys n) (hn:ys.length=n):∀ v∈ys,W.ownsRow base 3 1 (.slice v.A v.n v.c) v.n (intL v.r.lv):=fun v hv=>by
 obtain ⟨k,hk⟩:=List.getElem?_of_mem hv
 exact h.new k v (by have:=(List.getElem?_eq_some_iff.1 hk).1;omega) hk
theorem rv_one:∀ x,∀ u∈rvC x,u.oneCell'=true:=by
 intro x u hu
 simp only [rvC,List.mem_cons,List.not_mem_nil,or_false] at hu
 rcases hu with rfl | rfl | rfl | rfl | rfl | rfl | rfl <;> rfl
theorem tv_one:∀ x,∀ u∈tvC x,u.oneCell'=true:=by
 intro x u hu
 simp only [tvC,List.mem_cons,List.not_mem_nil,or_false] at hu
 rcases hu with rfl | rfl | rfl | rfl | rfl | rfl | rfl | rfl <;> rfl
theorem pp_one:∀ x,∀ u∈ppC x,u.oneCell'=true:=by
 intro x u hu
 simp only [ppC,List.mem_cons,List.not_mem_nil,or_false] at hu
 rcases hu with rfl | rfl <;> rfl
theorem sg_one:∀ x,∀ u∈sgC x,u.oneCell'=true:=by
 intro x u hu
 simp only [sgC,List.mem_cons,List.not_mem_nil,or_false] at hu
 rcases hu with rfl | rfl | rfl | rfl | rfl | rfl | rfl <;> rfl
theorem in_one (l:List Int):∀ u∈intL l,u.oneCell'=true:=by
 intro u hu
 obtain ⟨x,_,rfl⟩:=List.mem_map.1 hu
 rfl
end Go.Proofs.YtmcmbicapdcfmaaGreat
