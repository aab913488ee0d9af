/- Layer 2 of the texts that LoanBack takes: Bbeq. -/
import Derived.Test.YtmcmbicapdcfmaaGreatBbaq
set_option linter.unusedVariables false
set_option linter.unusedSimpArgs false
set_option maxHeartbeats 16000000
namespace Go.Proofs.YtmcmbicapdcfmaaGreat
open Go.RowKit Go.Maps
theorem infoClPaper:(Tryz.prog.info? 38).map (fun i=>(i.zero,i.size,i.bytes))=some (some (.agg #[.int .i64 0,.int .i64 0]),2,16):=by kernel_rfl
set_option maxRecDepth 100000 in
theorem p_ClPaper (news:List Value) (A:Option Addr) (n c:Nat) (w:World) (hn:n≤100000) (hr:Rd w w.heap.size 2 A n news) (h1:∀ u∈news,u.oneCell'=true) :
 Calls Tryz.prog 129 #[.slice A n c] w (RetRow 38 2 n news w):=by
 obtain ⟨i0,hi,hz0,hz1,hz2⟩:=info_parts infoClPaper
 have qT:∀ (w:World) (a:Option Addr) (n c n' c':Nat),(binOp .eql 27 (.slice a n c) (.slice none n' c')).run Tryz.prog w=.ok (.bool a.isNone) w:=fun w a n c n' c'=>Lib.run_eql_slice_nil w _ _ a n c n' c' Tryz.underlying27
 cases A with
 | none =>
   have hn0:n=0:=by
    rcases Nat.eq_zero_or_pos n with h | h
    ·exact h
    ·obtain ⟨_,_,e,_⟩:=hr.2 h;cases e
   subst hn0
   obtain rfl:news=[]:=List.eq_nil_of_length_eq_zero (by have:=hr.1;omega)
   go_enter Tryz.func129,Tryz.ntmps129
   go_wp2
   go_ret
   exact ⟨_,rfl,Below.refl _ _,World.ownsRow_nil _ _ _ _⟩
 | some p =>
   have HR:=hd_ hr
   have H1:=hd_ h1
   clear hr h1
   go_enter Tryz.func129,Tryz.ntmps129
   go_wp2_with (at_builtin;refine wpList_app2 rfl (.tmp 5) (.tmp 6) 27 rfl (base:=w.heap.size) (B:=w.heap.size) (e:=38) (i:=i0) (size:=2) (bytes:=16) Tryz.underlying27 hi hz0 hz1 hz2 rfl (by decide) rfl rfl (n:=0) (xs:=[]) (own_emptyB2 w 38 2 w.heap.size lr_) (m:=n) (news:=news) (HR.out.alloc lr_ _) H1.out (by unfold maxLen;omega) (by omega) (by simp) ?_;intro v2 w2 hown2 hgrow2 hb2)
   go_ret
   refine ⟨v2,rfl,(show Below w.heap.size w (w.alloc (.cells #[] 38)) by exact bel_).trans hb2,?_⟩
   have h:=hown2
   simp only [Nat.zero_add,List.nil_append] at h
   exact h
theorem infoClInt2:(Tryz.prog.info? 3).map (fun i=>(i.zero,i.size,i.bytes))=some (some (.int .i64 0),1,8):=by kernel_rfl
set_option maxRecDepth 100000 in
theorem p_ClInt2 (news:List Value) (A:Option Addr) (n c:Nat) (w:World) (hn:n≤100000) (hr:Rd w w.heap.size 1 A n news) (h1:∀ u∈news,u.oneCell'=true) :
 Calls Tryz.prog 131 #[.slice A n c] w (RetRow 3 1 n news w):=by
 obtain ⟨i0,hi,hz0,hz1,hz2⟩:=info_parts infoClInt2
 have qT:∀ (w:World) (a:Option Addr) (n c n' c':Nat),(binOp .eql 33 (.slice a n c) (.slice none n' c')).run Tryz.prog w=.ok (.bool a.isNone) w:=fun w a n c n' c'=>Lib.run_eql_slice_nil w _ _ a n c n' c' Tryz.underlying33
 cases A with
 | none =>
   have hn0:n=0:=by
    rcases Nat.eq_zero_or_pos n with h | h
    ·exact h
    ·obtain ⟨_,_,e,_⟩:=hr.2 h;cases e
   subst hn0
   obtain rfl:news=[]:=List.eq_nil_of_length_eq_zero (by have:=hr.1;omega)
   go_enter Tryz.func131,Tryz.ntmps131
   go_wp2
   go_ret
   exact ⟨_,rfl,Below.refl _ _,World.ownsRow_nil _ _ _ _⟩
 | some p =>
   have HR:=hd_ hr
   have H1:=hd_ h1
   clear hr h1
   go_enter Tryz.func131,Tryz.ntmps131
   go_wp2_with (at_builtin;refine wpList_app2 rfl (.tmp 5) (.tmp 6) 33 rfl (base:=w.heap.size) (B:=w.heap.size) (e:=3) (i:=i0) (size:=1) (bytes:=8) Tryz.underlying33 hi hz0 hz1 hz2 rfl (by decide) rfl rfl (n:=0) (xs:=[]) (own_emptyB2 w 3 1 w.heap.size lr_) (m:=n) (news:=news) (HR.out.alloc lr_ _) H1.out (by unfold maxLen;omega) (by omega) (by simp) ?_;intro v2 w2 hown2 hgrow2 hb2)
   go_ret
   refine ⟨v2,rfl,(show Below w.heap.size w (w.alloc (.cells #[] 3)) by exact bel_).trans hb2,?_⟩
   have h:=hown2
   simp only [Nat.zero_add,List.nil_append] at h
   exact h
theorem infoClSight:(Tryz.prog.info? 70).map (fun i=>(i.zero,i.size,i.bytes))=some (some (.agg #[.int .i64 0,.int .i64 0,.int .i64 0,.int .i64 0,.int .i64 0,.int .i64 0,.int .i64 0]),7,56):=by kernel_rfl
set_option maxRecDepth 100000 in
theorem p_ClSight (news:List Value) (A:Option Addr) (n c:Nat) (w:World) (hn:n≤100000) (hr:Rd w w.heap.size 7 A n news) (h1:∀ u∈news,u.oneCell'=true) :
 Calls Tryz.prog 133 #[.slice A n c] w (RetRow 70 7 n news w):=by
 obtain ⟨i0,hi,hz0,hz1,hz2⟩:=info_parts infoClSight
 have qT:∀ (w:World) (a:Option Addr) (n c n' c':Nat),(binOp .eql 30 (.slice a n c) (.slice none n' c')).run Tryz.prog w=.ok (.bool a.isNone) w:=fun w a n c n' c'=>Lib.run_eql_slice_nil w _ _ a n c n' c' Tryz.underlying30
 cases A with
 | none =>
   have hn0:n=0:=by
    rcases Nat.eq_zero_or_pos n with h | h
    ·exact h
    ·obtain ⟨_,_,e,_⟩:=hr.2 h;cases e
   subst hn0
   obtain rfl:news=[]:=List.eq_nil_of_length_eq_zero (by have:=hr.1;omega)
   go_enter Tryz.func133,Tryz.ntmps133
   go_wp2
   go_ret
   exact ⟨_,rfl,Below.refl _ _,World.ownsRow_nil _ _ _ _⟩
 | some p =>
   have HR:=hd_ hr
   have H1:=hd_ h1
   clear hr h1
   go_enter Tryz.func133,Tryz.ntmps133
   go_wp2_with (at_builtin;refine wpList_app2 rfl (.tmp 5) (.tmp 6) 30 rfl (base:=w.heap.size) (B:=w.heap.size) (e:=70) (i:=i0) (size:=7) (bytes:=56) Tryz.underlying30 hi hz0 hz1 hz2 rfl (by decide) rfl rfl (n:=0) (xs:=[]) (own_emptyB2 w 70 7 w.heap.size lr_) (m:=n) (news:=news) (HR.out.alloc lr_ _) H1.out (by unfold maxLen;omega) (by omega) (by simp) ?_;intro v2 w2 hown2 hgrow2 hb2)
   go_ret
   refine ⟨v2,rfl,(show Below w.heap.size w (w.alloc (.cells #[] 70)) by exact bel_).trans hb2,?_⟩
   have h:=hown2
   simp only [Nat.zero_add,List.nil_append] at h
   exact h
theorem infoClRcpt:(Tryz.prog.info? 79).map (fun i=>(i.zero,i.size,i.bytes))=some (some (.agg #[.int .i64 0,.int .i64 0,.int .i64 0,.slice none 0 0,.int .i64 0,.int .i64 0,.int .i64 0]),7,72):=by kernel_rfl
set_option maxRecDepth 100000 in
theorem p_ClRcpt (news:List Value) (A:Option Addr) (n c:Nat) (w:World) (hn:n≤100000) (hr:Rd w w.heap.size 7 A n news) (h1:∀ u∈news,u.oneCell'=true) :
 Calls Tryz.prog 130 #[.slice A n c] w (RetRow 79 7 n news w):=by
 obtain ⟨i0,hi,hz0,hz1,hz2⟩:=info_parts infoClRcpt
 have qT:∀ (w:World) (a:Option Addr) (n c n' c':Nat),(binOp .eql 28 (.slice a n c) (.slice none n' c')).run Tryz.prog w=.ok (.bool a.isNone) w:=fun w a n c n' c'=>Lib.run_eql_slice_nil w _ _ a n c n' c' Tryz.underlying28
 cases A with
 | none =>
   have hn0:n=0:=by
    rcases Nat.eq_zero_or_pos n with h | h
    ·exact h
    ·obtain ⟨_,_,e,_⟩:=hr.2 h;cases e
   subst hn0
   obtain rfl:news=[]:=List.eq_nil_of_length_eq_zero (by have:=hr.1;omega)
   go_enter Tryz.func130,Tryz.ntmps130
   go_wp2
   go_ret
   exact ⟨_,rfl,Below.refl _ _,World.ownsRow_nil _ _ _ _⟩
 | some p =>
   have HR:=hd_ hr
   have H1:=hd_ h1
   clear hr h1
   go_enter Tryz.func130,Tryz.ntmps130
   go_wp2_with (at_builtin;refine wpList_app2 rfl (.tmp 5) (.tmp 6) 28 rfl (base:=w.heap.size) (B:=w.heap.size) (e:=79) (i:=i0) (size:=7) (bytes:=72) Tryz.underlying28 hi hz0 hz1 hz2 rfl (by decide) rfl rfl (n:=0) (xs:=[]) (own_emptyB2 w 79 7 w.heap.size lr_) (m:=n) (news:=news) (HR.out.alloc lr_ _) H1.out (by unfold maxLen;omega) (by omega) (by simp) ?_;intro v2 w2 hown2 hgrow2 hb2)
   go_ret
   refine ⟨v2,rfl,(show Below w.heap.size w (w.alloc (.cells #[] 79)) by exact bel_).trans hb2,?_⟩
   have h:=hown2
   simp only [Nat.zero_add,List.nil_append] at h
   exact h
theorem infoClRetn:(Tryz.prog.info? 75).map (fun i=>(i.zero,i.size,i.bytes))=some (some (.agg #[.int .i64 0,.int .i64 0,.int .i64 0,.slice none 0 0,.int .i64 0,.int .i64 0,.int .i64 0,.int .i64 0]),8,80):=by kernel_rfl
set_option maxRecDepth 100000 in
theorem p_ClRetn (news:List Value) (A:Option Addr) (n c:Nat) (w:World) (hn:n≤100000) (hr:Rd w w.heap.size 8 A n news) (h1:∀ u∈news,u.oneCell'=true) :
 Calls Tryz.prog 132 #[.slice A n c] w (RetRow 75 8 n news w):=by
 obtain ⟨i0,hi,hz0,hz1,hz2⟩:=info_parts infoClRetn
 have qT:∀ (w:World) (a:Option Addr) (n c n' c':Nat),(binOp .eql 29 (.slice a n c) (.slice none n' c')).run Tryz.prog w=.ok (.bool a.isNone) w:=fun w a n c n' c'=>Lib.run_eql_slice_nil w _ _ a n c n' c' Tryz.underlying29
 cases A with
 | none =>
   have hn0:n=0:=by
    rcases Nat.eq_zero_or_pos n with h | h
    ·exact h
    ·obtain ⟨_,_,e,_⟩:=hr.2 h;cases e
   subst hn0
   obtain rfl:news=[]:=List.eq_nil_of_length_eq_zero (by have:=hr.1;omega)
   go_enter Tryz.func132,Tryz.ntmps132
   go_wp2
   go_ret
   exact ⟨_,rfl,Below.refl _ _,World.ownsRow_nil _ _ _ _⟩
 | some p =>
   have HR:=hd_ hr
   have H1:=hd_ h1
   clear hr h1
   go_enter Tryz.func132,Tryz.ntmps132
   go_wp2_with (at_builtin;refine wpList_app2 rfl (.tmp 5) (.tmp 6) 29 rfl (base:=w.heap.size) (B:=w.heap.size) (e:=75) (i:=i0) (size:=8) (bytes:=80) Tryz.underlying29 hi hz0 hz1 hz2 rfl (by decide) rfl rfl (n:=0) (xs:=[]) (own_emptyB2 w 75 8 w.heap.size lr_) (m:=n) (news:=news) (HR.out.alloc lr_ _) H1.out (by unfold maxLen;omega) (by omega) (by simp) ?_;intro v2 w2 hown2 hgrow2 hb2)
   go_ret
   refine ⟨v2,rfl,(show Below w.heap.size w (w.alloc (.cells #[] 75)) by exact bel_).trans hb2,?_⟩
   have h:=hown2
   simp only [Nat.zero_add,List.nil_append] at h
   exact h
structure CpR (W:World) (base:Nat) (xs ys:List Rv) (k:Nat):Prop where
 r:ys.map Rv.r=xs.map Rv.r
 new:∀ (j:Nat) (v:Rv),j<k→ys[j]?=some v→W.ownsRow base 3 1 (.slice v.A v.n v.c) v.n (intL v.r.lv)
 old:∀ j,k≤j→ys[j]?=xs[j]?
theorem CpR.ext {W W':World} {base k:Nat} {xs ys:List Rv} (h:CpR W base xs ys k) (hb:Below W.heap.size W W'):CpR W' base xs ys k:=⟨h.r,fun j v hj hv=>own_ex (h.new j v hj hv) hb,h.old⟩
theorem CpR.kept {W W':World} {base k:Nat} {xs ys:List Rv} (h:CpR W base xs ys k) {g:Nat} {cs:Array Value} {t:TypeId} (hg:W.heap[g]?=some (.cells cs t (0,0))) (ht:t≠3) (hk:∀ b,b≠g→W'.heap[b]?=W.heap[b]?):CpR W' base xs ys k :=
 ⟨h.r,fun j v hj hv=>own_keep (h.new j v hj hv) fun b hb=>hk b fun e=>own_ne (h.new j v hj hv) hg ht (e ▸ hb.symm),h.old⟩
theorem CpR.step {W:World} {base k n c:Nat} {xs ys:List Rv} {A:Option Addr} {x:Rv} (h:CpR W base xs ys k) (hx:ys[k]?=some x) (ho:W.ownsRow base 3 1 (.slice A n c) n (intL x.r.lv)):CpR W base xs (ys.set k ⟨x.r,A,n,c⟩) (k+1):=by
 have hk:k<ys.length:=(List.getElem?_eq_some_iff.1 hx).1
 refine ⟨?_,fun j v hj hv=>?_,fun j hj=>?_⟩
 ·rw [← h.r]
  apply List.ext_getElem?
  intro i
  rw [List.getElem?_map,List.getElem?_map,List.getElem?_set]
  split
  ·rename_i e
   subst e
   try rw [if_pos hk]
   rw [hx]
   rfl
  ·rfl
 ·rw [List.getElem?_set] at hv
  split at hv
  ·try rw [if_pos hk] at hv
   cases hv
   exact ho
  ·exact h.new j v (by omega) hv
 ·rw [List.getElem?_set,if_neg (by omega)]
  exact h.old j (by omega)
structure CpT (W:World) (base:Nat) (xs ys:List Tv) (k:Nat):Prop where
 r:ys.map Tv.r=xs.map Tv.r
 new:∀ (j:Nat) (v:Tv),j<k→ys[j]?=some v→W.ownsRow base 3 1 (.slice v.A v.n v.c) v.n (intL v.r.lv)
 old:∀ j,k≤j→ys[j]?=xs[j]?
theorem CpT.ext {W W':World} {base k:Nat} {xs ys:List Tv} (h:CpT W base xs ys k) (hb:Below W.heap.size W W'):CpT W' base xs ys k:=⟨h.r,fun j v hj hv=>own_ex (h.new j v hj hv) hb,h.old⟩
theorem CpT.kept {W W':World} {base k:Nat} {xs ys:List Tv} (h:CpT W base xs ys k) {g:Nat} {cs:Array Value} {t:TypeId} (hg:W.heap[g]?=some (.cells cs t (0,0))) (ht:t≠3) (hk:∀ b,b≠g→W'.heap[b]?=W.heap[b]?):CpT W' base xs ys k :=
 ⟨h.r,fun j v hj hv=>own_keep (h.new j v hj hv) fun b hb=>hk b fun e=>own_ne (h.new j v hj hv) hg ht (e ▸ hb.symm),h.old⟩
theorem CpT.step {W:World} {base k n c:Nat} {xs ys:List Tv} {A:Option Addr} {x:Tv} (h:CpT W base xs ys k) (hx:ys[k]?=some x) (ho:W.ownsRow base 3 1 (.slice A n c) n (intL x.r.lv)):CpT W base xs (ys.set k ⟨x.r,A,n,c⟩) (k+1):=by
 have hk:k<ys.length:=(List.getElem?_eq_some_iff.1 hx).1
 refine ⟨?_,fun j v hj hv=>?_,fun j hj=>?_⟩
 ·rw [← h.r]
  apply List.ext_getElem?
  intro i
  rw [List.getElem?_map,List.getElem?_map,List.getElem?_set]
  split
  ·rename_i e
   subst e
   try rw [if_pos hk]
   rw [hx]
   rfl
  ·rfl
 ·rw [List.getElem?_set] at hv
  split at hv
  ·try rw [if_pos hk] at hv
   cases hv
   exact ho
  ·exact h.new j v (by omega) hv
 ·rw [List.getElem?_set,if_neg (by omega)]
  exact h.old j (by omega)
theorem CpR.done {W:World} {base n:Nat} {xs ys:List Rv} (h:CpR W base xs ys n) (hn:ys.length=n):∀ v∈ys,W.ownsRow base 3 1 (.slice v.A v.n v.c) v.n (intL v.r.lv):=fun v hv=>by
 obtain ⟨k,hk⟩:=List.getElem?_of_mem hv
 exact h.new k v (by have:=(List.getElem?_eq_some_iff.1 hk).1;omega) hk
theorem CpT.done {W:World} {base n:Nat} {xs ys:List Tv} (h:CpT W base xs ys n) (hn:ys.length=n):∀ v∈ys,W.ownsRow base 3 1 (.slice v.A v.n v.c) v.n (intL v.r.lv):=fun v hv=>by
 obtain ⟨k,hk⟩:=List.getElem?_of_mem hv
 exact h.new k v (by have:=(List.getElem?_eq_some_iff.1 hk).1;omega) hk
theorem rv_one:∀ x,∀ u∈rvC x,u.oneCell'=true:=by
 intro x u hu
 simp only [rvC,List.mem_cons,List.not_mem_nil,or_false] at hu
 rcases hu with rfl | rfl | rfl | rfl | rfl | rfl | rfl <;> rfl
theorem tv_one:∀ x,∀ u∈tvC x,u.oneCell'=true:=by
 intro x u hu
 simp only [tvC,List.mem_cons,List.not_mem_nil,or_false] at hu
 rcases hu with rfl | rfl | rfl | rfl | rfl | rfl | rfl | rfl <;> rfl
theorem pp_one:∀ x,∀ u∈ppC x,u.oneCell'=true:=by
 intro x u hu
 simp only [ppC,List.mem_cons,List.not_mem_nil,or_false] at hu
 rcases hu with rfl | rfl <;> rfl
theorem sg_one:∀ x,∀ u∈sgC x,u.oneCell'=true:=by
 intro x u hu
 simp only [sgC,List.mem_cons,List.not_mem_nil,or_false] at hu
 rcases hu with rfl | rfl | rfl | rfl | rfl | rfl | rfl <;> rfl
theorem in_one (l:List Int):∀ u∈intL l,u.oneCell'=true:=by
 intro u hu
 obtain ⟨x,_,rfl⟩:=List.mem_map.1 hu
 rfl
theorem Rd.now {w w':World} {n s:Nat} {A:Option Addr} {xs:List Value} (h:Rd w w.heap.size s A n xs) (hb:Below w.heap.size w w'):Rd w' w'.heap.size s A n xs:=(Rd.ext h hb lr_).more hb.size
structure CpS (w W:World) (C:Array Value):Prop where
 hB:Below w.heap.size w W
 bL:BoxA W w.heap.size 32 C
 bZ:BoxA W (w.heap.size+1) 32 #[.slice none 0 0,.slice none 0 0,.slice none 0 0,.slice none 0 0]
theorem CpS.ext {w W W':World} {C:Array Value} (h:CpS w W C) (hb:Below W.heap.size W W'):CpS w W' C:=⟨bt_ h.hB hb,h.bL.ext hb,h.bZ.ext hb⟩
theorem CpS.set {w W:World} {C:Array Value} (h:CpS w W C) (o:Nat) (u:Value):CpS w (W.setCell ⟨w.heap.size,o,none⟩ u) (C.setIfInBounds o u):=⟨h.hB.setCell lr_ _,h.bL.set o u,h.bZ.other (by simp) _⟩
theorem CpS.row {w W:World} {C:Array Value} (h:CpS w W C) (g o:Nat) (u:Value) (hg:w.heap.size+2≤g):CpS w (W.setCell ⟨g,o,none⟩ u) C:=⟨h.hB.setCell (show w.heap.size≤g by omega) _,h.bL.other (show w.heap.size≠g by omega) _,h.bZ.other (show w.heap.size+1≠g by omega) _⟩
theorem CpS.new (w:World) (C:Array Value):CpS w ((w.alloc (.cells C 32)).alloc (.cells #[.slice none 0 0,.slice none 0 0,.slice none 0 0,.slice none 0 0] 32)) C:=by
 have h:=box2 w 32 32 C #[.slice none 0 0,.slice none 0 0,.slice none 0 0,.slice none 0 0]
 exact ⟨by exact bel_,h.1,h.2⟩
def RetCop (l:Led) (w:World) (e:Ending) (w':World):Prop:=∃ (y:Lsl) (rvs:List Rv) (tvs:List Tv),e=.returned (.agg #[.slice y.pA y.pn y.pc,.slice y.rA y.rn y.rc,.slice y.tA y.tn y.tc,.slice y.sA y.sn y.sc])∧Below w.heap.size w w'∧Cop w' w.heap.size y l.pp rvs tvs l.sg∧rvs.map Rv.r=l.rc∧tvs.map Tv.r=l.rt
set_option maxRecDepth 10000 in
theorem p_copied (l:Led) (x:Lsl) (w:World) (hl:LedOk l) (hd:LedIn w w.heap.size x l) :
 Calls Tryz.prog 89 #[.agg #[.slice x.pA x.pn x.pc,.slice x.rA x.rn x.rc,.slice x.tA x.tn x.tc,.slice x.sA x.sn x.sc]] w (RetCop l w):=by
 obtain ⟨pA,pn,pc,rA,rn,rc,tA,tn,tc,sA,sn,sc⟩:=x
 show Calls _ _ #[.agg #[.slice pA pn pc,.slice rA rn rc,.slice tA tn tc,.slice sA sn sc]] _ _
 obtain ⟨xs,hxs,hx⟩:=rvs_of hd.r
 obtain ⟨ts,hts,ht,htv⟩:=tvs_of hd.t
 have hpn:pn≤12:=by have h1:=hl.pn;have h2:l.pp.length=pn:=hd.p.len;omega
 have hrn:rn≤60:=by have h1:=hl.rn;have h2:l.rc.length=rn:=hd.r.len;omega
 have htn:tn≤60:=by have h1:=hl.tn;have h2:l.rt.length=tn:=hd.t.len;omega
 have hsn:sn≤60:=by have h1:=hl.sn;have h2:l.sg.length=sn:=hd.s.len;omega
 have HPP:Hid (Rd w w.heap.size 2 pA pn (l.pp.flatMap ppC)):=by show Rd _ _ _ _ _ _;exact rd_pp hd.p
 have HRR:Hid (Rd w w.heap.size 7 rA rn (xs.flatMap rvC)):=by show Rd _ _ _ _ _ _;exact rd_rv hx
 have HTT:Hid (Rd w w.heap.size 8 tA tn (ts.flatMap tvC)):=by show Rd _ _ _ _ _ _;exact ht
 have HSS:Hid (Rd w w.heap.size 7 sA sn (l.sg.flatMap sgC)):=by show Rd _ _ _ _ _ _;exact rd_sg hd.s
 have HRV:Hid (∀ v∈xs,Is w w.heap.size v.A v.n v.r.lv∧v.n≤30):=by
  show ∀ _,_
  intro v hv
  have h1:=(hl.rc v.r (by rw [← hxs];exact List.mem_map.2 ⟨v,hv,rfl⟩)).1
  obtain ⟨k,hk⟩:=List.getElem?_of_mem hv
  have hkn:k<rn:=by have:=(List.getElem?_eq_some_iff.1 hk).1;rw [hx.len] at this;exact this
  obtain ⟨b,o,y,_,_,hy,_,hi,_⟩:=hx.at_ hkn
  rw [hk] at hy
  cases hy
  exact ⟨hi,by rw [← hi.len];exact h1⟩
 have HTV:Hid (∀ v∈ts,Is w w.heap.size v.A v.n v.r.lv∧v.n≤30):=by
  show ∀ _,_
  intro v hv
  have h1:=(hl.rt v.r (by rw [← hts];exact List.mem_map.2 ⟨v,hv,rfl⟩)).1
  have hi:=(htv v hv).1
  exact ⟨hi,by rw [← hi.len];exact h1⟩
 have HXS:=hd_ hxs
 have HTS:=hd_ hts
 have HS0:=hd_ (CpS.new w #[.slice pA pn pc,.slice rA rn rc,.slice tA tn tc,.slice sA sn sc])
 clear hxs hts hx ht htv hd hl
 go_enter Tryz.func89,Tryz.ntmps89
 go_wp2_with (go_at_call 129;refine (p_ClPaper _ pA pn pc _ (by omega) (HPP.out.now HS0.out.hB) (flat_ones pp_one _)).mono ?_;rintro e w1 ⟨v1,rfl,hb1,ho1⟩;obtain ⟨A1,c1,rfl,hcc1⟩:=own_slice ho1;have HS1:=hd_ (HS0.out.ext hb1);have HO1:=hd_ (own_dn (base':=w.heap.size+2) ho1 (by simp));have kL1:=HS1.out.bL.cell;have zL1:=HS1.out.bL.lt;have fL1:=HS1.out.bL.frozen;clear hb1 ho1)
 go_wp2_with (go_at_call 130;refine (p_ClRcpt _ rA rn rc _ (by omega) (HRR.out.now (HS1.out.set 0 (.slice A1 pn c1)).hB) (flat_ones rv_one _)).mono ?_;rintro e w2 ⟨v2,rfl,hb2,ho2⟩;obtain ⟨A2,c2,rfl,hcc2⟩:=own_slice ho2;have HS2:=hd_ ((HS1.out.set 0 (.slice A1 pn c1)).ext hb2);have HO2:=hd_ (own_dn (base':=w.heap.size+2) ho2 (by have:=HS1.out.bZ.lt;simp;omega));have HO1:=hd_ (own_ex (own_cset HO1.out (.slice A1 pn c1) (show w.heap.size<w.heap.size+2 by omega)) hb2);have kL2:=HS2.out.bL.cell;have zL2:=HS2.out.bL.lt;have fL2:=HS2.out.bL.frozen;clear hb2 ho2)
 clear kL1 zL1 fL1
 go_loopw [18] (fun i wr=>∃ (k:Nat) (ys:List Rv),k≤rn∧i=.int .i64 k∧CpS w wr #[.slice A1 pn c1,.slice A2 rn c2,.slice tA tn tc,.slice sA sn sc]∧wr.ownsRow (w.heap.size+2) 38 2 (.slice A1 pn c1) pn (l.pp.flatMap ppC)∧wr.ownsRow (w.heap.size+2) 79 7 (.slice A2 rn c2) rn (ys.flatMap rvC)∧CpR wr (w.heap.size+2) xs ys k) (fun i _=>rn - (intOf i).toNat)
 case atStart=>exact ⟨0,xs,by omega,rfl,HS2.out.set 1 (.slice A2 rn c2),own_cset HO1.out _ (by omega),own_cset HO2.out _ (by omega),rfl,fun j v hj=>absurd hj (by omega),fun _ _=>rfl⟩
 case round =>
  obtain ⟨k,ys,hk,rfl,hS,hp,hr,hc⟩:=hrel
  have hsB:=hS.hB.size
  have kL:=hS.bL.cell
  have zL:=hS.bL.lt
  clear kL2 zL2 fL2
  by_cases hlt:k<rn
  ·obtain ⟨g,cap,hv,hg1,hg2,hnc,hcm⟩:=own_shape2 hr (by omega)
   have hyl:ys.length=rn:=own_len hr (fun _=>rfl) (by omega)
   obtain ⟨b,o,v,e9,hbB,hyk,a0,a1,a2,a3,a4,a5,a6⟩:=at_Rcp (Rd.of_own hr) hyl (Below.refl _ _) lr_ hlt
   simp only [Value.slice.injEq,true_and] at hv
   obtain ⟨rfl,rfl⟩:=hv
   cases e9
   simp only [Nat.zero_add] at a0 a1 a2 a3 a4 a5 a6
   have hxk:xs[k]?=some v:=by rw [← hc.old k lr_];exact hyk
   obtain ⟨hvi,hvn⟩:=HRV.out v (List.mem_of_getElem? hxk)
   have HVI:=hd_ hvi
   have HYK:=hd_ hyk
   have HYL:=hd_ hyl
   have HS:=hd_ hS
   have HP:=hd_ hp
   have HR:=hd_ hr
   have HC:=hd_ hc
   clear hvi hyk hyl hS hp hr hc hxk
   go_wp2_with fail
   obtain ⟨W5,hW5⟩:∃ W5,wr.alloc (.cells #[.int .i64 v.r.src,.int .i64 v.r.bor,.int .i64 v.r.pap,.slice v.A v.n v.c,.int .i64 v.r.day,.int .i64 v.r.kn,.int .i64 v.r.un] 79)=W5:=⟨_,rfl⟩
   rw [hW5]
   have hB5:Below wr.heap.size wr W5:=by rw [← hW5];exact (Below.refl _ _).alloc lr_ _
   have bV:BoxA W5 wr.heap.size 79 #[.int .i64 v.r.src,.int .i64 v.r.bor,.int .i64 v.r.pap,.slice v.A v.n v.c,.int .i64 v.r.day,.int .i64 v.r.kn,.int .i64 v.r.un]:=by rw [← hW5];exact BoxA.new _ _ _
   have S5:=HS.out.ext hB5
   have HS5:=hd_ S5
   have hs5:wr.heap.size<W5.heap.size:=bV.lt
   have hW5d:Below W5.heap.size W5 W5.drew:=(Below.refl _ _).drew
   clear hW5 kL zL a0 a1 a2 a3 a4 a5 a6
   (refine wp_region_held_lit (S:=S1 w.heap.size wr.heap.size #[.slice A1 pn c1,.slice (some ⟨g,0,none⟩) rn c2,.slice tA tn tc,.slice sA sn sc] #[.int .i64 v.r.src,.int .i64 v.r.bor,.int .i64 v.r.pap,.slice v.A v.n v.c,.int .i64 v.r.day,.int .i64 v.r.kn,.int .i64 v.r.un]) 9 (by kernel_rfl) rfl ⟨S5.bL.cell,bV.cell,S5.bL.lt,bV.lt⟩ (fun hS=>?_);simp only [List.reduceReplicate,Array.replicate_succ,Array.replicate_zero])
   clear S5
   (refine tk_ (i:=0) (v:=?_) rfl ?_ hS ?_;rotate_left;focus (intro w2 hw2;(try unfold S1 at hw2);go_split_ands;go_simp;first | done | with_reducible rfl);(try simp only [Act.put,pu1,pu2,pu3]))
   (refine tk_ (i:=1) (v:=?_) rfl ?_ hS ?_;rotate_left;focus (intro w2 hw2;(try unfold S1 at hw2);go_split_ands;go_simp;first | done | with_reducible rfl);(try simp only [Act.put,pu1,pu2,pu3]))
   (refine tk_ (i:=2) (v:=?_) rfl ?_ hS ?_;rotate_left;focus (intro w2 hw2;(try unfold S1 at hw2);go_split_ands;go_simp;first | done | with_reducible rfl);(try simp only [Act.put,pu1,pu2,pu3]))
   (refine tk_ (i:=3) (v:=?_) rfl ?_ hS ?_;rotate_left;focus (intro w2 hw2;(try unfold S1 at hw2);go_split_ands;go_simp;first | done | with_reducible rfl);(try simp only [Act.put,pu1,pu2,pu3]))
   (refine tk_ (i:=4) (v:=?_) rfl ?_ hS ?_;rotate_left;focus (intro w2 hw2;(try unfold S1 at hw2);go_split_ands;go_simp;first | done | with_reducible rfl);(try simp only [Act.put,pu1,pu2,pu3]))
   refine rd_ [5] ?_
   refine ah1 rfl fun K hK=>?_
   (go_simp;go_at_call 131;refine (p_ClInt2 (intL v.r.lv) v.A v.n v.c _ (by omega) (Rd.now (Is.now HVI.out HS5.out.hB) hW5d) (in_one _)).mono ?_;rintro e w6 ⟨v6,rfl,hb6,ho6⟩;obtain ⟨A6,c6,rfl,hcc6⟩:=own_slice ho6;go_simp)
   have h6:Below W5.heap.size W5 w6:=hW5d.trans hb6
   have HS6:=hd_ (HS5.out.ext h6)
   refine hK.out _ _ (S1.ext hb6 hS) (fun hS=>?_)
   clear hK K
   (try simp only [Act.put,pu1,pu2,pu3])
   have hr6:=own_ex (own_ex HR.out hB5) h6
   have q3:=hr6.cellAt (k*7+3) (by omega)
   rw [flat_get rvC 7 (fun _=>rfl) ys k 3 v HYK.out (by omega)] at q3
   have q3':w6.cell? ⟨g,k*7+3,none⟩=some (.slice v.A v.n v.c):=q3
   have fz:=hr6.frozenAt
   have HR6:=hd_ hr6
   have HO6:=hd_ ho6
   clear q3 hr6 ho6
   (refine tk_ (i:=6) (v:=?_) rfl ?_ hS ?_;rotate_left;focus (intro w2 hw2;(try unfold S1 at hw2);go_split_ands;go_simp;first | done | with_reducible rfl);(try simp only [Act.put,pu1,pu2,pu3]))
   (refine tk_ (i:=7) (v:=?_) rfl ?_ hS ?_;rotate_left;focus (intro w2 hw2;(try unfold S1 at hw2);go_split_ands;go_simp;first | done | with_reducible rfl);(try simp only [Act.put,pu1,pu2,pu3]))
   refine rd_ [8] ?_
   refine ah1 rfl fun K hK=>?_
   go_simp
   refine hK.out _ _ (S1.grown (HR6.out.stored _ _).2 hS (by omega) (by omega)) (fun hS=>?_)
   clear hK K
   (try simp only [Act.put,pu1,pu2,pu3])
   refine wpAnyH_done (by kernel_rfl) ?_ _
   go_wp2
   go_roundw
   case rel =>
    refine ⟨k+1,ys.set k ⟨v.r,A6,v.n,c6⟩,by omega,by go_num,HS6.out.row g _ _ hg1,?_,?_,?_⟩
    ·exact own_other (own_ex (own_ex HP.out hB5) h6) HR6.out ty_ne.1 (HR6.out.stored _ _).2
    ·have h:=(HR6.out.stored (k*7+3) (.slice A6 v.n c6)).1
     rwa [flat_set rvC 7 (fun _=>rfl) ys k 3 ⟨v.r,A6,v.n,c6⟩ _ (by rw [HYL.out];exact hlt) (by omega) (by rw [HYK.out];rfl)] at h
    ·obtain ⟨cur,hcur⟩:=own_block HR6.out rfl
     have hc6:=((HC.out.ext hB5).ext h6).step (A:=A6) (n:=v.n) (c:=c6) HYK.out (own_dn HO6.out (by have:W5.drew.heap.size=W5.heap.size:=rfl;have:=HS.out.bZ.lt;omega))
     exact hc6.kept hcur ty_ne.2.2.2.2.2.2.2.1.symm fun b hb=>Below.heap_setCell _ _ _ _ hb
   case measure=>exact ms_
  ·have hkn:k=rn:=by omega
   rw [hkn] at hc
   have HP:=hd_ hp
   have HR:=hd_ hr
   have HC:=hd_ hc
   have HS:=hd_ hS
   have fL:=hS.bL.frozen
   clear hp hr hc hS hlt hk HRV
   go_wp2_with (go_at_call 132;refine (p_ClRetn _ tA tn tc _ (by omega) (HTT.out.now HS.out.hB) (flat_ones tv_one _)).mono ?_;rintro e w3 ⟨v3,rfl,hb3,ho3⟩;obtain ⟨A3,c3,rfl,hcc3⟩:=own_slice ho3;have HS3:=hd_ (HS.out.ext hb3);have HO3:=hd_ (own_dn (base':=w.heap.size+2) ho3 (by have:=HS.out.bZ.lt;omega));have HP3:=hd_ (own_ex HP.out hb3);have HR3:=hd_ (own_ex HR.out hb3);have HC3:=hd_ (HC.out.ext hb3);have kL3:=HS3.out.bL.cell;have zL3:=HS3.out.bL.lt;have fL3:=HS3.out.bL.frozen;clear hb3 ho3)
   clear HP HR HC HS kL zL fL hsB
   go_loopw [39] (fun i wr=>∃ (k:Nat) (zs:List Tv),k≤tn∧i=.int .i64 k∧CpS w wr #[.slice A1 pn c1,.slice A2 rn c2,.slice A3 tn c3,.slice sA sn sc]∧wr.ownsRow (w.heap.size+2) 38 2 (.slice A1 pn c1) pn (l.pp.flatMap ppC)∧wr.ownsRow (w.heap.size+2) 79 7 (.slice A2 rn c2) rn (ys.flatMap rvC)∧CpR wr (w.heap.size+2) xs ys rn∧wr.ownsRow (w.heap.size+2) 75 8 (.slice A3 tn c3) tn (zs.flatMap tvC)∧CpT wr (w.heap.size+2) ts zs k) (fun i _=>tn - (intOf i).toNat)
   case atStart=>exact ⟨0,ts,by omega,rfl,HS3.out.set 2 (.slice A3 tn c3),own_cset HP3.out _ (by omega),own_cset HR3.out _ (by omega),CpR.kept HC3.out HS3.out.bL (by decide) (fun b hb=>Below.heap_setCell _ _ _ _ hb),own_cset HO3.out _ (by omega),rfl,fun j v hj=>absurd hj (by omega),fun _ _=>rfl⟩
   case round =>
    obtain ⟨k,zs,hk,rfl,hS,hp,hq,hd,hr,hc⟩:=hrel
    have hsB:=hS.hB.size
    have kL:=hS.bL.cell
    have zL:=hS.bL.lt
    clear kL3 zL3 fL3
    by_cases hlt:k<tn
    ·obtain ⟨g,cap,hv,hg1,hg2,hnc,hcm⟩:=own_shape2 hr (by omega)
     have hyl:zs.length=tn:=own_len hr (fun _=>rfl) (by omega)
     obtain ⟨b,o,v,e9,hbB,hyk,a0,a1,a2,a3,a4,a5,a6,a7⟩:=at_Rtn (Rd.of_own hr) hyl (Below.refl _ _) lr_ hlt
     simp only [Value.slice.injEq,true_and] at hv
     obtain ⟨rfl,rfl⟩:=hv
     cases e9
     simp only [Nat.zero_add] at a0 a1 a2 a3 a4 a5 a6 a7
     have hxk:ts[k]?=some v:=by rw [← hc.old k lr_];exact hyk
     obtain ⟨hvi,hvn⟩:=HTV.out v (List.mem_of_getElem? hxk)
     have HVI:=hd_ hvi
     have HYK:=hd_ hyk
     have HYL:=hd_ hyl
     have HS:=hd_ hS
     have HP:=hd_ hp
     have HQ:=hd_ hq
     have HD:=hd_ hd
     have HR:=hd_ hr
     have HC:=hd_ hc
     clear hvi hyk hyl hS hp hq hd hr hc hxk
     go_wp2_with fail
     obtain ⟨W5,hW5⟩:∃ W5,wr.alloc (.cells #[.int .i64 v.r.src,.int .i64 v.r.rcp,.int .i64 v.r.per,.slice v.A v.n v.c,.int .i64 v.r.lo,.int .i64 v.r.hi,.int .i64 v.r.kn,.int .i64 v.r.un] 75)=W5:=⟨_,rfl⟩
     rw [hW5]
     have hB5:Below wr.heap.size wr W5:=by rw [← hW5];exact (Below.refl _ _).alloc lr_ _
     have bV:BoxA W5 wr.heap.size 75 #[.int .i64 v.r.src,.int .i64 v.r.rcp,.int .i64 v.r.per,.slice v.A v.n v.c,.int .i64 v.r.lo,.int .i64 v.r.hi,.int .i64 v.r.kn,.int .i64 v.r.un]:=by rw [← hW5];exact BoxA.new _ _ _
     have S5:=HS.out.ext hB5
     have HS5:=hd_ S5
     have hs5:wr.heap.size<W5.heap.size:=bV.lt
     have hW5d:Below W5.heap.size W5 W5.drew:=(Below.refl _ _).drew
     clear hW5 kL zL a0 a1 a2 a3 a4 a5 a6 a7
     (refine wp_region_held_lit (S:=S1 w.heap.size wr.heap.size #[.slice A1 pn c1,.slice A2 rn c2,.slice (some ⟨g,0,none⟩) tn c3,.slice sA sn sc] #[.int .i64 v.r.src,.int .i64 v.r.rcp,.int .i64 v.r.per,.slice v.A v.n v.c,.int .i64 v.r.lo,.int .i64 v.r.hi,.int .i64 v.r.kn,.int .i64 v.r.un]) 9 (by kernel_rfl) rfl ⟨S5.bL.cell,bV.cell,S5.bL.lt,bV.lt⟩ (fun hS=>?_);simp only [List.reduceReplicate,Array.replicate_succ,Array.replicate_zero])
     clear S5
     (refine tk_ (i:=0) (v:=?_) rfl ?_ hS ?_;rotate_left;focus (intro w2 hw2;(try unfold S1 at hw2);go_split_ands;go_simp;first | done | with_reducible rfl);(try simp only [Act.put,pu1,pu2,pu3]))
     (refine tk_ (i:=1) (v:=?_) rfl ?_ hS ?_;rotate_left;focus (intro w2 hw2;(try unfold S1 at hw2);go_split_ands;go_simp;first | done | with_reducible rfl);(try simp only [Act.put,pu1,pu2,pu3]))
     (refine tk_ (i:=2) (v:=?_) rfl ?_ hS ?_;rotate_left;focus (intro w2 hw2;(try unfold S1 at hw2);go_split_ands;go_simp;first | done | with_reducible rfl);(try simp only [Act.put,pu1,pu2,pu3]))
     (refine tk_ (i:=3) (v:=?_) rfl ?_ hS ?_;rotate_left;focus (intro w2 hw2;(try unfold S1 at hw2);go_split_ands;go_simp;first | done | with_reducible rfl);(try simp only [Act.put,pu1,pu2,pu3]))
     (refine tk_ (i:=4) (v:=?_) rfl ?_ hS ?_;rotate_left;focus (intro w2 hw2;(try unfold S1 at hw2);go_split_ands;go_simp;first | done | with_reducible rfl);(try simp only [Act.put,pu1,pu2,pu3]))
     refine rd_ [5] ?_
     refine ah1 rfl fun K hK=>?_
     (go_simp;go_at_call 131;refine (p_ClInt2 (intL v.r.lv) v.A v.n v.c _ (by omega) (Rd.now (Is.now HVI.out HS5.out.hB) hW5d) (in_one _)).mono ?_;rintro e w6 ⟨v6,rfl,hb6,ho6⟩;obtain ⟨A6,c6,rfl,hcc6⟩:=own_slice ho6;go_simp)
     have h6:Below W5.heap.size W5 w6:=hW5d.trans hb6
     have HS6:=hd_ (HS5.out.ext h6)
     refine hK.out _ _ (S1.ext hb6 hS) (fun hS=>?_)
     clear hK K
     (try simp only [Act.put,pu1,pu2,pu3])
     have hr6:=own_ex (own_ex HR.out hB5) h6
     have q3:=hr6.cellAt (k*8+3) (by omega)
     rw [flat_get tvC 8 (fun _=>rfl) zs k 3 v HYK.out (by omega)] at q3
     have q3':w6.cell? ⟨g,k*8+3,none⟩=some (.slice v.A v.n v.c):=q3
     have fz:=hr6.frozenAt
     have HR6:=hd_ hr6
     have HO6:=hd_ ho6
     clear q3 hr6 ho6
     (refine tk_ (i:=6) (v:=?_) rfl ?_ hS ?_;rotate_left;focus (intro w2 hw2;(try unfold S1 at hw2);go_split_ands;go_simp;first | done | with_reducible rfl);(try simp only [Act.put,pu1,pu2,pu3]))
     (refine tk_ (i:=7) (v:=?_) rfl ?_ hS ?_;rotate_left;focus (intro w2 hw2;(try unfold S1 at hw2);go_split_ands;go_simp;first | done | with_reducible rfl);(try simp only [Act.put,pu1,pu2,pu3]))
     refine rd_ [8] ?_
     refine ah1 rfl fun K hK=>?_
     go_simp
     refine hK.out _ _ (S1.grown (HR6.out.stored _ _).2 hS (by omega) (by omega)) (fun hS=>?_)
     clear hK K
     (try simp only [Act.put,pu1,pu2,pu3])
     refine wpAnyH_done (by kernel_rfl) ?_ _
     go_wp2
     go_roundw
     case rel =>
      refine ⟨k+1,zs.set k ⟨v.r,A6,v.n,c6⟩,by omega,by go_num,HS6.out.row g _ _ hg1,?_,?_,?_,?_,?_⟩
      ·exact own_other (own_ex (own_ex HP.out hB5) h6) HR6.out ty_ne.2.1 (HR6.out.stored _ _).2
      ·exact own_other (own_ex (own_ex HQ.out hB5) h6) HR6.out ty_ne.2.2.2.1 (HR6.out.stored _ _).2
      ·obtain ⟨cur,hcur⟩:=own_block HR6.out rfl
       exact ((HD.out.ext hB5).ext h6).kept hcur ty_ne.2.2.2.2.2.2.2.2.1.symm fun b hb=>Below.heap_setCell _ _ _ _ hb
      ·have h:=(HR6.out.stored (k*8+3) (.slice A6 v.n c6)).1
       rwa [flat_set tvC 8 (fun _=>rfl) zs k 3 ⟨v.r,A6,v.n,c6⟩ _ (by rw [HYL.out];exact hlt) (by omega) (by rw [HYK.out];rfl)] at h
      ·obtain ⟨cur,hcur⟩:=own_block HR6.out rfl
       have hc6:=((HC.out.ext hB5).ext h6).step (A:=A6) (n:=v.n) (c:=c6) HYK.out (own_dn HO6.out (by have:W5.drew.heap.size=W5.heap.size:=rfl;have:=HS.out.bZ.lt;omega))
       exact hc6.kept hcur ty_ne.2.2.2.2.2.2.2.2.1.symm fun b hb=>Below.heap_setCell _ _ _ _ hb
     case measure=>exact ms_
    ·have hkn:k=tn:=by omega
     rw [hkn] at hc
     have HP:=hd_ hp
     have HQ:=hd_ hq
     have HD:=hd_ hd
     have HR:=hd_ hr
     have HC:=hd_ hc
     have HS:=hd_ hS
     have fL:=hS.bL.frozen
     clear hp hq hd hr hc hS hlt hk
     go_wp2_with (go_at_call 133;refine (p_ClSight _ sA sn sc _ (by omega) (HSS.out.now HS.out.hB) (flat_ones sg_one _)).mono ?_;rintro e w4 ⟨v4,rfl,hb4,ho4⟩;obtain ⟨A4,c4,rfl,hcc4⟩:=own_slice ho4;have HS4:=hd_ (HS.out.ext hb4);have HO4:=hd_ (own_dn (base':=w.heap.size+2) ho4 (by have:=HS.out.bZ.lt;omega));have HP4:=hd_ (own_ex HP.out hb4);have HQ4:=hd_ (own_ex HQ.out hb4);have HD4:=hd_ (HD.out.ext hb4);have HR4:=hd_ (own_ex HR.out hb4);have HC4:=hd_ (HC.out.ext hb4);have kZ4:=(HS.out.ext hb4).bZ.cell;have zZ4:=(HS.out.ext hb4).bZ.lt;have fZ4:=(HS.out.ext hb4).bZ.frozen;have kL4:=HS4.out.bL.cell;have zL4:=HS4.out.bL.lt;have fL4:=HS4.out.bL.frozen;clear hb4 ho4)
     go_wp2
     have HS5:=HS4.out.set 3 (.slice A4 sn c4)
     have hyl:ys.length=rn:=own_len HQ4.out (fun _=>rfl) (by omega)
     have hzl:zs.length=tn:=own_len HR4.out (fun _=>rfl) (by omega)
     have HC5:Cop w4 (w.heap.size+2) ⟨A1,pn,c1,A2,rn,c2,A3,tn,c3,A4,sn,c4⟩ l.pp ys zs l.sg:=⟨HP4.out,HQ4.out,HR4.out,HO4.out,HD4.out.done hyl,HC4.out.done hzl⟩
     have HC6:=HC5.cset (B:=w.heap.size) (o:=3) (.slice A4 sn c4) (by omega)
     obtain ⟨W2,hW2⟩:∃ W2,W2=(w4.setCell ⟨w.heap.size,3,none⟩ (.slice A4 sn c4)).setCells (w.heap.size+1) 0 [.slice A1 pn c1,.slice A2 rn c2,.slice A3 tn c3,.slice A4 sn c4]:=⟨_,rfl⟩
     have bZ2:BoxA W2 (w.heap.size+1) 32 #[.slice A1 pn c1,.slice A2 rn c2,.slice A3 tn c3,.slice A4 sn c4]:=by rw [hW2];exact HS5.bZ.setAll [.slice A1 pn c1,.slice A2 rn c2,.slice A3 tn c3,.slice A4 sn c4] rfl
     have hB2:Below w.heap.size w W2:=by rw [hW2];exact HS5.hB.grown (grown_setCells _ _ _ _) HS5.hB.size (fun b e=>by cases e;omega)
     have HC9:Cop W2 (w.heap.size+2) ⟨A1,pn,c1,A2,rn,c2,A3,tn,c3,A4,sn,c4⟩ l.pp ys zs l.sg:=by rw [hW2];exact HC6.kept HS5.bZ (grown_setCells _ _ _ _)
     have HCF:=hd_ HC9
     have kz2:=bZ2.cell
     have zz2:=bZ2.lt
     have HW2:=hd_ hW2
     clear hW2 HC9 HC5 HC6 HS5 kL4 zL4 fL4 kZ4 zZ4 fZ4
     refine bodyPost_w (W2:=W2) (by rw [HW2.out];rfl) ?_
     refine bodyPost_ret (v:=.agg #[.slice A1 pn c1,.slice A2 rn c2,.slice A3 tn c3,.slice A4 sn c4]) ?_ rfl ?_
     ·(simp [results,Tryz.f89,go_sem];try go_simp)
     ·exact ⟨⟨A1,pn,c1,A2,rn,c2,A3,tn,c3,A4,sn,c4⟩,ys,zs,rfl,hB2,HCF.out.dn (by omega),by rw [HD4.out.r,HXS.out],by rw [HC4.out.r,HTS.out]⟩
end Go.Proofs.YtmcmbicapdcfmaaGreat
