/- Layer 2 of the texts that LoanBack takes: Bbnq. -/
import Derived.Test.YtmcmbicapdcfmaaGreatBbmq
set_option linter.unusedVariables false
set_option linter.unusedSimpArgs false
set_option maxHeartbeats 16000000
namespace Go.Proofs.YtmcmbicapdcfmaaGreat
open Go.RowKit Go.Maps
theorem val_pair {α:Type} {num:α→Int} {ok:α→Bool} {most:Nat} {l:List α} (h:valB num ok most l=true):l.Pairwise fun x y=>num x<num y:=by
 rw [valB,Bool.and_eq_true] at h
 have hadj:∀ j (h1:j+1<l.length),num (l[j]'(by omega))<num l[j+1]:=fun j h1=>by
  have h2:=List.all_eq_true.1 h.2 (j+1) (List.mem_range.2 h1)
  have e1:l[j+1]?=some l[j+1]:=List.getElem?_eq_getElem h1
  have e2:l[j]?=some (l[j]'(by omega)):=List.getElem?_eq_getElem (by omega)
  simp only [valAt,e1,e2,Bool.and_eq_true,decide_eq_true_eq] at h2
  exact h2.2
 rw [List.pairwise_iff_getElem]
 intro i j hi hj hij
 obtain ⟨d,rfl⟩:∃ d,j=i+d+1:=⟨j - i - 1,by omega⟩
 clear hij
 induction d with
 | zero=>exact hadj i hj
 | succ d ih=>exact Int.lt_trans (ih (by omega)) (hadj (i+d+1) (by omega))
theorem val_mk {α:Type} {num:α→Int} {ok:α→Bool} {most:Nat} {l:List α} (h1:l.length≤most) (h2:∀ x∈l,ok x=true) (h3:l.Pairwise fun x y=>num x<num y):valB num ok most l=true:=by
 rw [valB,Bool.and_eq_true,decide_eq_true_eq]
 refine ⟨h1,List.all_eq_true.2 fun k hk=>?_⟩
 have hk:=List.mem_range.1 hk
 have hp:=List.pairwise_iff_getElem.1 h3
 cases k with
 | zero =>
   have e1:l[0]?=some l[0]:=List.getElem?_eq_getElem hk
   simp only [valAt,e1]
   exact h2 _ (List.getElem_mem _)
 | succ j =>
   have e1:l[j+1]?=some l[j+1]:=List.getElem?_eq_getElem hk
   have e2:l[j]?=some (l[j]'(by omega)):=List.getElem?_eq_getElem (by omega)
   simp only [valAt,e1,e2,Bool.and_eq_true,decide_eq_true_eq]
   exact ⟨h2 _ (List.getElem_mem _),hp j (j+1) (by omega) hk (by omega)⟩
structure TldAt (W:World) (A:Option Addr) (n:Nat) (T:List (List Int)) (rs:List Rw):Prop where
 rd:Rd W W.heap.size 1 A n (rs.map Rw.v)
 xs:rs.map Rw.xs=T
 at_is:∀ r∈rs,Is W W.heap.size r.A r.n r.xs
theorem TldAt.ext {W W':World} {A:Option Addr} {n:Nat} {T:List (List Int)} {rs:List Rw} (h:TldAt W A n T rs) (hb:Below W.heap.size W W'):TldAt W' A n T rs :=
 ⟨(Rd.ext h.rd hb lr_).more hb.size,h.xs,fun r hr=>(h.at_is r hr).now hb⟩
theorem TldAt.at_ {W:World} {A:Option Addr} {n k:Nat} {fs:List (Int × Int)} {f:Int × Int} {WF:Int × Int→List Int} {rs:List Rw} (h:TldAt W A n (fs.map WF) rs) (hf:fs[k]?=some f) (hk:k<n) :
 ∃ (b o:Nat) (r:Rw),A=some ⟨b,o,none⟩∧b<W.heap.size∧W.cell? ⟨b,o+k,none⟩=some r.v∧r.xs=WF f∧Is W W.heap.size r.A r.n r.xs:=by
 obtain ⟨b,o,e,hb,hc⟩:=h.rd.2 (by omega)
 have h1:(rs.map Rw.xs)[k]?=some (WF f):=by rw [h.xs,List.getElem?_map,hf];rfl
 rw [List.getElem?_map] at h1
 obtain ⟨r,hr,hx⟩:=Option.map_eq_some_iff.1 h1
 exact ⟨b,o,r,e,hb,hc k r.v (by rw [List.getElem?_map,hr];rfl),hx,h.at_is r (List.mem_of_getElem? hr)⟩
theorem wrap_in {a:Int} (h0:-1000000≤a) (h1:a≤1000000):IntKind.i64.wrap a=a:=IntWalk.i64_in _ (by omega)
def mPp:List Ppr:=[⟨1,4⟩,⟨2,3⟩,⟨5,2⟩]
structure BitsOk (n:Int) (l:List Int):Prop where
 ne:0<l.length
 up:l.Pairwise (·<·)
 lo:∀ x∈l,1≤x∧x≤n
structure RcMk (d:Int) (k:Nat) (r:Rcp):Prop where
 src:r.src=3*(k:Int)+1
 bor:1≤r.bor∧r.bor≤4
 pap:∃ p∈mPp,r.pap=p.id∧BitsOk p.lv r.lv
 day:0≤r.day∧r.day≤d
 kn:r.day≤r.kn∧r.kn≤r.day+4
 un:r.un=0
structure RtMk (R:List Rcp) (k:Nat) (t:Rtn) (at_:Int):Prop where
 src:t.src=3*(k:Int)+2
 rcp:∃ r∈R,t.rcp=r.src∧r.day≤at_∧at_≤r.day+29
 per:1≤t.per∧t.per≤4
 lv:∃ n:Int,n≤4∧BitsOk n t.lv
 day:0≤t.lo∧t.lo≤at_∧at_≤t.hi∧t.hi≤200
 kn:t.hi≤t.kn∧t.kn≤210
 un:t.un=0
structure SgMk (k:Nat) (s:Sgt):Prop where
 src:s.src=3*(k:Int)+3
 per:0≤s.per∧s.per≤4
 pap:∃ p∈mPp,s.pap=p.id∧1≤s.leaf∧s.leaf≤p.lv
 day:0≤s.day∧s.day≤300
 kn:s.day≤s.kn∧s.kn≤400
 un:s.un=0
structure MkOk (d:Int) (l:Led) (days:List Int):Prop where
 pp:l.pp=mPp
 dd:d≤160
 rl:l.rc.length≤8
 tl:l.rt.length≤8
 sl:l.sg.length≤6
 rc:∀ k r,l.rc[k]?=some r→RcMk d k r
 rt:∀ k t,l.rt[k]?=some t→∃ y,days[k]?=some y∧RtMk l.rc k t y
 sg:∀ k s,l.sg[k]?=some s→SgMk k s
 dl:days.length=l.rt.length
theorem idx_all {α:Type} {l:List α} {P:α→Prop} (h:∀ (k:Nat) x,l[k]?=some x→P x):∀ x∈l,P x:=fun x hx=>by
 obtain ⟨k,hk,rfl⟩:=List.mem_iff_getElem.1 hx
 exact h k _ (List.getElem?_eq_getElem hk)
theorem idx_up {α:Type} {l:List α} {f:α→Int} {a b:Int} (hb:0<a) (h:∀ (k:Nat) x,l[k]?=some x→f x=a*(k:Int)+b):l.Pairwise fun x y=>f x<f y:=by
 rw [List.pairwise_iff_getElem]
 intro i j hi hj hij
 have h1:=h i _ (List.getElem?_eq_getElem hi)
 have h2:=h j _ (List.getElem?_eq_getElem hj)
 rw [h1,h2]
 have h3:a*(i:Int)<a*(j:Int):=Int.mul_lt_mul_of_pos_left (by omega) hb
 omega
theorem bits_ok {n:Int} {l:List Int} (h:BitsOk n l) (hn:n≤4):leavesB l=true:=by
 have h2:l.length≤4:=by
  have h3:∀ (i:Nat) (hi:i<l.length),(i:Int)+1≤l[i]:=by
   intro i
   induction i with
   | zero=>intro hi;have:=(h.lo _ (List.getElem_mem hi)).1;omega
   | succ i ih =>
     intro hi
     have h4:=ih (by omega)
     have h5:=List.pairwise_iff_getElem.1 h.up i (i+1) (by omega) hi (by omega)
     omega
  rcases Nat.eq_zero_or_pos l.length with h0 | h0
  ·omega
  ·have h4:=h3 (l.length - 1) (by omega)
   have h5:=(h.lo _ (List.getElem_mem (show l.length - 1<l.length by omega))).2
   omega
 rw [leavesB,Bool.and_eq_true]
 refine ⟨by simpa using h.ne,val_mk (by omega) (fun x hx=>?_) (by simpa using h.up)⟩
 have:=h.lo x hx
 simp [leafB,withinB]
 omega
theorem mem_pp {p:Ppr} (h:p∈mPp):(p.id=1∧p.lv=4)∨(p.id=2∧p.lv=3)∨(p.id=5∧p.lv=2):=by
 simp only [mPp,List.mem_cons,List.not_mem_nil,or_false] at h
 rcases h with rfl | rfl | rfl <;> simp
theorem lv_pp {p:Ppr} (h:p∈mPp):lvOf mPp p.id=p.lv:=by
 rcases mem_pp h with ⟨h1,h2⟩ | ⟨h1,h2⟩ | ⟨h1,h2⟩ <;> rw [h1,h2] <;> rfl
theorem MkOk.led {d:Int} {l:Led} {days:List Int} (h:MkOk d l days):ledB l=true:=by
 have hd:=h.dd
 simp only [ledB,Bool.and_eq_true,decide_eq_true_eq]
 refine ⟨by rw [h.pp];decide,val_mk (by have:=h.rl;omega) (idx_all fun k r hr=>?_) (idx_up (a:=3) (b:=1) (by decide) fun k r hr=>(h.rc k r hr).src),val_mk (by have:=h.tl;omega) (idx_all fun k t ht=>?_) (idx_up (a:=3) (b:=2) (by decide) fun k t ht=>by obtain ⟨y,-,hy⟩:=h.rt k t ht;exact hy.src),val_mk (by have:=h.sl;omega) (idx_all fun k s hs=>?_) (idx_up (a:=3) (b:=3) (by decide) fun k s hs=>(h.sg k s hs).src),?_,?_⟩
 ·have hk:k<l.rc.length:=(List.getElem?_eq_some_iff.1 hr).1
  have hrl:=h.rl
  obtain ⟨h1,h2,⟨p,hp,h3,h4⟩,h5,h6,h7⟩:=h.rc k r hr
  have hlv:leavesB r.lv=true:=bits_ok h4 (by rcases mem_pp hp with ⟨-,e⟩ | ⟨-,e⟩ | ⟨-,e⟩ <;> omega)
  have hpi:1≤r.pap∧r.pap≤5:=by rcases mem_pp hp with ⟨e,-⟩ | ⟨e,-⟩ | ⟨e,-⟩ <;> omega
  simp only [true_and,and_true,true_or,Rcp.okB,withinB,lastsB,hlv,h7,Bool.and_eq_true,Bool.or_eq_true,decide_eq_true_eq]
  omega
 ·have hk:k<l.rt.length:=(List.getElem?_eq_some_iff.1 ht).1
  have htl:=h.tl
  obtain ⟨y,-,h1,⟨r,hr,h2,-⟩,h3,⟨n,hn,h4⟩,h5,h6,h7⟩:=h.rt k t ht
  have hlv:leavesB t.lv=true:=bits_ok h4 hn
  obtain ⟨j,hj,he⟩:=List.mem_iff_getElem.1 hr
  have hs:=(h.rc j r (by rw [← he];exact List.getElem?_eq_getElem hj)).src
  have hrl:=h.rl
  simp only [true_and,and_true,true_or,Rtn.okB,withinB,rangeB,lastsB,hlv,h7,Bool.and_eq_true,Bool.or_eq_true,decide_eq_true_eq]
  omega
 ·have hk:k<l.sg.length:=(List.getElem?_eq_some_iff.1 hs).1
  have hsl:=h.sl
  obtain ⟨h1,h2,⟨p,hp,h3,h4⟩,h5,h6,h7⟩:=h.sg k s hs
  have hpi:1≤s.pap∧s.pap≤5∧s.leaf≤4:=by rcases mem_pp hp with ⟨e,f⟩ | ⟨e,f⟩ | ⟨e,f⟩ <;> omega
  simp only [true_and,and_true,true_or,Sgt.okB,withinB,lastsB,h7,Bool.and_eq_true,Bool.or_eq_true,decide_eq_true_eq]
  omega
 ·have a1:(l.rc.map Rcp.src).Nodup:=by
   rw [List.nodup_iff_pairwise_ne,List.pairwise_map]
   exact (idx_up (f:=Rcp.src) (a:=3) (b:=1) (by decide) fun k r hr=>(h.rc k r hr).src).imp fun h=>by omega
  have a2:(l.rt.map Rtn.src).Nodup:=by
   rw [List.nodup_iff_pairwise_ne,List.pairwise_map]
   exact (idx_up (f:=Rtn.src) (a:=3) (b:=2) (by decide) fun k t ht=>by obtain ⟨y,-,hy⟩:=h.rt k t ht;exact hy.src).imp fun h=>by omega
  have a3:(l.sg.map Sgt.src).Nodup:=by
   rw [List.nodup_iff_pairwise_ne,List.pairwise_map]
   exact (idx_up (f:=Sgt.src) (a:=3) (b:=3) (by decide) fun k s hs=>(h.sg k s hs).src).imp fun h=>by omega
  have m1:∀ x∈l.rc.map Rcp.src,x % 3=1:=fun x hx=>by
   obtain ⟨r,hr,rfl⟩:=List.mem_map.1 hx
   exact idx_all (P:=fun r=>r.src % 3=1) (fun k r hr=>by rw [(h.rc k r hr).src];omega) r hr
  have m2:∀ x∈l.rt.map Rtn.src,x % 3=2:=fun x hx=>by
   obtain ⟨r,hr,rfl⟩:=List.mem_map.1 hx
   exact idx_all (P:=fun r=>r.src % 3=2) (fun k r hr=>by obtain ⟨y,-,hy⟩:=h.rt k r hr;rw [hy.src];omega) r hr
  have m3:∀ x∈l.sg.map Sgt.src,x % 3=0:=fun x hx=>by
   obtain ⟨r,hr,rfl⟩:=List.mem_map.1 hx
   exact idx_all (P:=fun r=>r.src % 3=0) (fun k r hr=>by rw [(h.sg k r hr).src];omega) r hr
  rw [srcL,List.nodup_append]
  refine ⟨a1,List.nodup_append.2 ⟨a2,a3,fun x hx y hy e=>?_⟩,fun x hx y hy e=>?_⟩
  ·have:=m2 x hx;have:=m3 y hy;omega
  ·have q1:=m1 x hx
   rcases List.mem_append.1 hy with hy | hy
   ·have:=m2 y hy;omega
   ·have:=m3 y hy;omega
 ·rw [h.pp,folsB,List.all_eq_true]
  intro f hf
  simp only [namL,List.mem_append,List.mem_flatMap,List.mem_map] at hf
  have g:∀ (p:Ppr) (x:Int),p∈mPp→1≤x→x≤p.lv→folB mPp p.id x=true:=fun p x hp h1 h2=>by
   rw [folB,lv_pp hp]
   simp [withinB,h1,h2]
  rcases hf with ⟨r,hr,hf⟩ | ⟨s,hs,rfl⟩
  ·simp only [rcFol,List.mem_map] at hf
   obtain ⟨x,hx,rfl⟩:=hf
   obtain ⟨k,hk,he⟩:=List.mem_iff_getElem.1 hr
   obtain ⟨p,hp,h3,h4⟩:=(h.rc k r (by rw [← he];exact List.getElem?_eq_getElem hk)).pap
   dsimp only
   rw [h3]
   exact g p x hp (h4.lo x hx).1 (h4.lo x hx).2
  ·obtain ⟨k,hk,he⟩:=List.mem_iff_getElem.1 hs
   obtain ⟨p,hp,h3,h4,h5⟩:=(h.sg k s (by rw [← he];exact List.getElem?_eq_getElem hk)).pap
   dsimp only
   rw [h3]
   exact g p _ hp h4 h5
theorem RcMk.mono {d d':Int} {k:Nat} {r:Rcp} (h:RcMk d k r) (hd:d≤d'):RcMk d' k r:=⟨h.src,h.bor,h.pap,⟨h.day.1,by have:=h.day.2;omega⟩,h.kn,h.un⟩
theorem snoc_at {α:Type} {l:List α} {x y:α} {k:Nat} (h:(l ++ [x])[k]?=some y):l[k]?=some y∨(k=l.length∧y=x):=by
 by_cases hk:k<l.length
 ·rw [List.getElem?_append_left hk] at h;exact .inl h
 ·rw [List.getElem?_append_right (by omega)] at h
  by_cases h0:k - l.length=0
  ·rw [h0] at h
   exact .inr ⟨by omega,(Option.some.inj h).symm⟩
  ·rw [List.getElem?_eq_none (by simp;omega)] at h;cases h
theorem MkOk.addR {d d':Int} {pp:List Ppr} {rc:List Rcp} {sg:List Sgt} {r:Rcp} (h:MkOk d ⟨pp,rc,[],sg⟩ []) (hd:d≤d') (hdd:d'≤160) (hl:rc.length<8) (hr:RcMk d' rc.length r):MkOk d' ⟨pp,rc ++ [r],[],sg⟩ [] :=
 ⟨h.pp,hdd,by simp;omega,h.tl,h.sl,fun k x hx=>by
   rcases snoc_at hx with hx | ⟨rfl,rfl⟩
   ·exact (h.rc k x hx).mono hd
   ·exact hr,fun k t ht=>by simp at ht,h.sg,h.dl⟩
theorem MkOk.addT {d:Int} {pp:List Ppr} {rc:List Rcp} {rt:List Rtn} {sg:List Sgt} {days:List Int} {t:Rtn} {y:Int} (h:MkOk d ⟨pp,rc,rt,sg⟩ days) (hl:rt.length<8) (ht:RtMk rc rt.length t y):MkOk d ⟨pp,rc,rt ++ [t],sg⟩ (days ++ [y]) :=
 ⟨h.pp,h.dd,h.rl,by simp;omega,h.sl,h.rc,fun k x hx=>by
   have hdl:=h.dl
   dsimp only at hdl
   rcases snoc_at hx with hx | ⟨rfl,rfl⟩
   ·obtain ⟨z,hz,hz2⟩:=h.rt k x hx
    exact ⟨z,by rw [List.getElem?_append_left (List.getElem?_eq_some_iff.1 hz).1];exact hz,hz2⟩
   ·exact ⟨y,by rw [← hdl];simp,ht⟩,h.sg,by have:=h.dl;simp_all⟩
theorem MkOk.addS {d:Int} {pp:List Ppr} {rc:List Rcp} {rt:List Rtn} {sg:List Sgt} {days:List Int} {s:Sgt} (h:MkOk d ⟨pp,rc,rt,sg⟩ days) (hl:sg.length<6) (hs:SgMk sg.length s):MkOk d ⟨pp,rc,rt,sg ++ [s]⟩ days :=
 ⟨h.pp,h.dd,h.rl,h.tl,by simp;omega,h.rc,h.rt,fun k x hx=>by
   rcases snoc_at hx with hx | ⟨rfl,rfl⟩
   ·exact h.sg k x hx
   ·exact hs,h.dl⟩
theorem MkOk.who {d:Int} {l:Led} {days:List Int} (h:MkOk d l days) (kn day pap leaf:Int) (D:List Int):0≤whoF l kn day D pap leaf∧whoF l kn day D pap leaf≤4:=by
 have g:∀ (rs:List Rcp) (s:Int × Int × Int),(∀ r∈rs,0≤r.bor∧r.bor≤4)→0≤s.1∧s.1≤4→0≤(rs.foldl (stayStep (opnL l kn).M leaf day) s).1∧(rs.foldl (stayStep (opnL l kn).M leaf day) s).1≤4:=by
  intro rs
  induction rs with
  | nil=>intro s _ h;exact h
  | cons r rs ih =>
    intro s hr hs
    refine ih _ (fun q hq=>hr q (List.mem_cons_of_mem _ hq)) ?_
    unfold stayStep
    split
    ·exact hs
    ·exact hr r (List.mem_cons_self ..)
 have h2:0≤(stayP (opnL l kn).M (cntR l kn) pap leaf day).1∧(stayP (opnL l kn).M (cntR l kn) pap leaf day).1≤4:=by
  refine g _ _ (fun r hr=>?_) (by decide)
  have hr2:r∈l.rc:=(List.mem_filter.1 (List.mem_filter.1 hr).1).1
  obtain ⟨k,hk,he⟩:=List.mem_iff_getElem.1 hr2
  have:=(h.rc k r (by rw [← he];exact List.getElem?_eq_getElem hk)).bor
  omega
 unfold whoF
 split
 ·exact h2
 ·decide
structure LvAt (wv W:World) (vD:Value) (A:Option Addr) (n c:Nat) (xs:List Int):Prop where
 cap:n≤c∧c≤maxLen
 own:W.ownsRow wv.heap.size 3 1 (.slice A n c) n (intL xs)
 far:∀ b,(Value.slice A n c).ownBlock=some b→vD.ownBlock≠some b
section
variable {wv W W':World} {vD vD':Value} {A:Option Addr} {n c:Nat} {xs:List Int}
theorem LvAt.ext (h:LvAt wv W vD A n c xs) (hb:Below W.heap.size W W'):LvAt wv W' vD A n c xs:=⟨h.cap,own_ex h.own hb,h.far⟩
theorem LvAt.other {base size m:Nat} {t:TypeId} {v:Value} {ys:List Value} (h:LvAt wv W vD A n c xs) (ho:W.ownsRow base t size v m ys) (ht:3≠t) (hg:W.grownBy W' v.ownBlock):LvAt wv W' vD A n c xs:=⟨h.cap,own_other h.own ho ht hg,h.far⟩
theorem LvAt.set {q:Nat} {T:TypeId} {cs:Array Value} (h:LvAt wv W vD A n c xs) (hq:BoxA W q T cs) (hT:T≠3) (o:Nat) (u:Value):LvAt wv (W.setCell ⟨q,o,none⟩ u) vD A n c xs:=⟨h.cap,h.own.kept (grown_setCell W q o u) (.inr fun e=>own_ne h.own hq hT e.symm),h.far⟩
theorem LvAt.days (h:LvAt wv W vD A n c xs) (hg:W.grownBy W' vD.ownBlock) (hat:vD'.ownBlock=vD.ownBlock∨vD'.ownBlock=some W.heap.size):LvAt wv W' vD' A n c xs :=
 ⟨h.cap,h.own.kept hg (by
   cases hb:(Value.slice A n c).ownBlock with
   | none=>exact .inl rfl
   | some b=>exact .inr fun e=>h.far b hb e.symm),fun b hb e=>by
   obtain ⟨cur,hc⟩:=own_block h.own hb
   have hlt:=block_lt hc
   rcases hat with hat | hat
   ·rw [hat] at e;exact h.far b hb e
   ·rw [hat] at e;injection e with e;omega⟩
theorem LvAt.is (h:LvAt wv W vD A n c xs):Is W W.heap.size A n xs:=by
 have:=Rd.of_own h.own
 exact this
end
theorem own_cap {W:World} {base e s n c:Nat} {A:Option Addr} {xs:List Value} (h:W.ownsRow base e s (.slice A n c) n xs):n≤c∧c≤maxLen:=by
 obtain ⟨A',c',e,h1⟩:=own_slice h
 injection e with _ _ e
 subst e
 exact h1
structure MdI (w wv W:World) (q:Nat) (OC:Array Value) (nR:Nat) (vR:Value) (RV:List Rv) (nT:Nat) (vT:Value) (TV:List Tv) (nS:Nat) (vS:Value) (SV:List Sgt) (nD:Nat) (vD:Value) (DL:List Int):Prop where
 wo:WoI w wv W q OC (nR,vR,RV.flatMap rvC) (nT,vT,TV.flatMap tvC) (nS,vS,SV.flatMap sgC)
 d:W.ownsRow wv.heap.size 3 1 vD nD (intL DL)
 lr:∀ z∈RV,LvAt wv W vD z.A z.n z.c z.r.lv
 lt:∀ z∈TV,LvAt wv W vD z.A z.n z.c z.r.lv
theorem WoI.ext {w wv wr w5:World} {q:Nat} {OC:Array Value} {a b c:Nat × Value × List Value} (h:WoI w wv wr q OC a b c) (h5:Below wr.heap.size wr w5):WoI w wv w5 q OC a b c :=
 ⟨h.bel.trans (h5.mono h.bel.size),fun k hk hne=>(h5.block k (by have:=h.sz;omega)).trans (h.keep k hk hne),Nat.le_trans h.sz h5.size,h.bO.ext h5,own_ex h.r h5,own_ex h.t h5,own_ex h.s h5⟩
section
variable {w wv wr w5 w6:World} {q:Nat} {OC:Array Value} {nR:Nat} {vR:Value} {RV:List Rv} {nT:Nat} {vT:Value} {TV:List Tv} {nS:Nat} {vS:Value} {SV:List Sgt} {nD:Nat} {vD:Value} {DL:List Int}
theorem MdI.ext (h:MdI w wv wr q OC nR vR RV nT vT TV nS vS SV nD vD DL) (h5:Below wr.heap.size wr w5):MdI w wv w5 q OC nR vR RV nT vT TV nS vS SV nD vD DL :=
 ⟨h.wo.ext h5,own_ex h.d h5,fun z hz=>(h.lr z hz).ext h5,fun z hz=>(h.lt z hz).ext h5⟩
theorem MdI.appR (h:MdI w wv wr q OC nR vR RV nT vT TV nS vS SV nD vD DL) (hq:w.heap.size≤q∧q<wv.heap.size) (hwv:w.heap.size≤wv.heap.size) (h5:Below wr.heap.size wr w5) {v2:Value} {n2:Nat} {z:Rv} (ho6:w6.ownsRow wv.heap.size 79 7 v2 n2 (RV.flatMap rvC ++ rvC z)) (hg6:w5.grownBy w6 vR.ownBlock) (hz:LvAt wv w5 vD z.A z.n z.c z.r.lv) (u:Value) :
 MdI w wv (w6.setCell ⟨q,1,none⟩ u) q (OC.setIfInBounds 1 u) n2 v2 (RV ++ [z]) nT vT TV nS vS SV nD vD DL:=by
 have h5o:=own_ex h.wo.r h5
 have hbO:BoxA w6 q 32 OC:=(h.wo.bO.ext h5).kept hg6 (own_ne h5o (h.wo.bO.ext h5) (by decide))
 have hd6:w6.ownsRow wv.heap.size 3 1 vD nD (intL DL):=own_other (own_ex h.d h5) h5o (by decide) hg6
 have g:∀ {A n c xs},LvAt wv w5 vD A n c xs→LvAt wv (w6.setCell ⟨q,1,none⟩ u) vD A n c xs:=fun hl=>(hl.other h5o (by decide) hg6).set hbO (by decide) 1 u
 refine ⟨?_,hd6.kept (grown_setCell w6 q 1 u) (.inr fun e=>own_ne hd6 hbO (by decide) e.symm),fun x hx=>?_,fun x hx=>g ((h.lt x hx).ext h5)⟩
 ·rw [List.flatMap_append,List.flatMap_cons,List.flatMap_nil,List.append_nil]
  exact h.wo.appR hq hwv h5 ho6 hg6 u
 ·rcases List.mem_append.1 hx with hx | hx
  ·exact g ((h.lr x hx).ext h5)
  ·rw [List.mem_singleton.1 hx];exact g hz
theorem MdI.appT (h:MdI w wv wr q OC nR vR RV nT vT TV nS vS SV nD vD DL) (hq:w.heap.size≤q∧q<wv.heap.size) (hwv:w.heap.size≤wv.heap.size) (h5:Below wr.heap.size wr w5) {v2:Value} {n2:Nat} {z:Tv} (ho6:w6.ownsRow wv.heap.size 75 8 v2 n2 (TV.flatMap tvC ++ tvC z)) (hg6:w5.grownBy w6 vT.ownBlock) (hz:LvAt wv w5 vD z.A z.n z.c z.r.lv) (u:Value) :
 MdI w wv (w6.setCell ⟨q,2,none⟩ u) q (OC.setIfInBounds 2 u) nR vR RV n2 v2 (TV ++ [z]) nS vS SV nD vD DL:=by
 have h5o:=own_ex h.wo.t h5
 have hbO:BoxA w6 q 32 OC:=(h.wo.bO.ext h5).kept hg6 (own_ne h5o (h.wo.bO.ext h5) (by decide))
 have hd6:w6.ownsRow wv.heap.size 3 1 vD nD (intL DL):=own_other (own_ex h.d h5) h5o (by decide) hg6
 have g:∀ {A n c xs},LvAt wv w5 vD A n c xs→LvAt wv (w6.setCell ⟨q,2,none⟩ u) vD A n c xs:=fun hl=>(hl.other h5o (by decide) hg6).set hbO (by decide) 2 u
 refine ⟨?_,hd6.kept (grown_setCell w6 q 2 u) (.inr fun e=>own_ne hd6 hbO (by decide) e.symm),fun x hx=>g ((h.lr x hx).ext h5),fun x hx=>?_⟩
 ·rw [List.flatMap_append,List.flatMap_cons,List.flatMap_nil,List.append_nil]
  exact h.wo.appT hq hwv h5 ho6 hg6 u
 ·rcases List.mem_append.1 hx with hx | hx
  ·exact g ((h.lt x hx).ext h5)
  ·rw [List.mem_singleton.1 hx];exact g hz
theorem MdI.appS (h:MdI w wv wr q OC nR vR RV nT vT TV nS vS SV nD vD DL) (hq:w.heap.size≤q∧q<wv.heap.size) (hwv:w.heap.size≤wv.heap.size) (h5:Below wr.heap.size wr w5) {v2:Value} {n2:Nat} {z:Sgt} (ho6:w6.ownsRow wv.heap.size 70 7 v2 n2 (SV.flatMap sgC ++ sgC z)) (hg6:w5.grownBy w6 vS.ownBlock) (u:Value) :
 MdI w wv (w6.setCell ⟨q,3,none⟩ u) q (OC.setIfInBounds 3 u) nR vR RV nT vT TV n2 v2 (SV ++ [z]) nD vD DL:=by
 have h5o:=own_ex h.wo.s h5
 have hbO:BoxA w6 q 32 OC:=(h.wo.bO.ext h5).kept hg6 (own_ne h5o (h.wo.bO.ext h5) (by decide))
 have hd6:w6.ownsRow wv.heap.size 3 1 vD nD (intL DL):=own_other (own_ex h.d h5) h5o (by decide) hg6
 have g:∀ {A n c xs},LvAt wv w5 vD A n c xs→LvAt wv (w6.setCell ⟨q,3,none⟩ u) vD A n c xs:=fun hl=>(hl.other h5o (by decide) hg6).set hbO (by decide) 3 u
 refine ⟨?_,hd6.kept (grown_setCell w6 q 3 u) (.inr fun e=>own_ne hd6 hbO (by decide) e.symm),fun x hx=>g ((h.lr x hx).ext h5),fun x hx=>g ((h.lt x hx).ext h5)⟩
 rw [List.flatMap_append,List.flatMap_cons,List.flatMap_nil,List.append_nil]
 exact h.wo.appS hq hwv h5 ho6 hg6 u
theorem MdI.appD (h:MdI w wv wr q OC nR vR RV nT vT TV nS vS SV nD vD DL) (hwv:w.heap.size≤wv.heap.size) (h5:Below wr.heap.size wr w5) {v2:Value} {n2:Nat} {y:Int} (ho6:w6.ownsRow wv.heap.size 3 1 v2 n2 (intL DL ++ [.int .i64 y])) (hg6:w5.grownBy w6 vD.ownBlock) (hat:v2.ownBlock=vD.ownBlock∨v2.ownBlock=some w5.heap.size) :
 MdI w wv w6 q OC nR vR RV nT vT TV nS vS SV n2 v2 (DL ++ [y]):=by
 have h5o:=own_ex h.d h5
 have hbO:BoxA w6 q 32 OC:=(h.wo.bO.ext h5).kept hg6 (own_ne h5o (h.wo.bO.ext h5) (by decide))
 have hsz:=h.wo.sz
 have hsz5:=h5.size
 refine ⟨⟨?_,fun k hk hne=>?_,Nat.le_trans h.wo.sz (Nat.le_trans h5.size hg6.size),hbO,own_other (own_ex h.wo.r h5) h5o (by decide) hg6,own_other (own_ex h.wo.t h5) h5o (by decide) hg6,own_other (own_ex h.wo.s h5) h5o (by decide) hg6⟩,by simpa [intL] using ho6,fun x hx=>((h.lr x hx).ext h5).days hg6 hat,fun x hx=>((h.lt x hx).ext h5).days hg6 hat⟩
 ·have h1:Below w.heap.size w w5:=h.wo.bel.trans (h5.mono h.wo.bel.size)
  exact h1.grown hg6 h1.size fun k ek=>Nat.le_trans hwv (own_le h5o ek)
 ·rw [hg6.block k (by omega) (fun e=>by have:=own_le h5o e.symm;omega),h5.block k (by omega)]
  exact h.wo.keep k hk hne
theorem MdI.led (h:MdI w wv wr q OC nR vR RV nT vT TV nS vS SV nD vD DL) {pA rA tA sA:Option Addr} {pn pc rc tc sc:Nat} {pp:List Ppr} (hp:Pps wr wr.heap.size pA pn pp) (hR:vR=.slice rA nR rc) (hT:vT=.slice tA nT tc) (hS:vS=.slice sA nS sc):LedIn wr wr.heap.size ⟨pA,pn,pc,rA,nR,rc,tA,nT,tc,sA,nS,sc⟩ ⟨pp,RV.map Rv.r,TV.map Tv.r,SV⟩:=by
 subst hR hT hS
 refine ⟨hp,rcs_of (sq_rv ?_ (own_len h.wo.r (fun _=>rfl) (by decide)) fun v hv=>⟨(h.lr v hv).is,(h.lr v hv).cap⟩),rts_of ?_ (own_len h.wo.t (fun _=>rfl) (by decide)) fun v hv=>⟨(h.lt v hv).is,(h.lt v hv).cap⟩,sq_sg ?_ (own_len h.wo.s (fun _=>rfl) (by decide))⟩
 ·exact Rd.of_own h.wo.r
 ·exact Rd.of_own h.wo.t
 ·exact Rd.of_own h.wo.s
end
structure RwsI (wv W:World) (nR:Nat) (vR:Value) (RV:List Rv) (nT:Nat) (vT:Value) (TV:List Tv) (nS:Nat) (vS:Value) (SV:List Sgt) (nD:Nat) (vD:Value) (DL:List Int):Prop where
 r:W.ownsRow wv.heap.size 79 7 vR nR (RV.flatMap rvC)
 t:W.ownsRow wv.heap.size 75 8 vT nT (TV.flatMap tvC)
 s:W.ownsRow wv.heap.size 70 7 vS nS (SV.flatMap sgC)
 d:W.ownsRow wv.heap.size 3 1 vD nD (intL DL)
 lr:∀ z∈RV,LvAt wv W vD z.A z.n z.c z.r.lv
 lt:∀ z∈TV,LvAt wv W vD z.A z.n z.c z.r.lv
section
variable {w wv wr:World} {q:Nat} {OC:Array Value} {nR:Nat} {vR:Value} {RV:List Rv} {nT:Nat} {vT:Value} {TV:List Tv} {nS:Nat} {vS:Value} {SV:List Sgt} {nD:Nat} {vD:Value} {DL:List Int}
theorem MdI.rws (h:MdI w wv wr q OC nR vR RV nT vT TV nS vS SV nD vD DL):RwsI wv wr nR vR RV nT vT TV nS vS SV nD vD DL:=⟨h.wo.r,h.wo.t,h.wo.s,h.d,h.lr,h.lt⟩
theorem own_low {W:World} {base e s n B:Nat} {v:Value} {xs:List Value} (h:W.ownsRow base e s v n xs) (hB:B<base) (o:Nat) (u:Value):(W.setCell ⟨B,o,none⟩ u).ownsRow base e s v n xs :=
 h.kept (grown_setCell W B o u) (.inr fun e=>by have:=own_le h e;omega)
theorem RwsI.far (h:RwsI wv wr nR vR RV nT vT TV nS vS SV nD vD DL) {b:Nat} (hb:b<wv.heap.size) (o:Nat) (u:Value):RwsI wv (wr.setCell ⟨b,o,none⟩ u) nR vR RV nT vT TV nS vS SV nD vD DL :=
 ⟨own_low h.r hb o u,own_low h.t hb o u,own_low h.s hb o u,own_low h.d hb o u,fun z hz=>⟨(h.lr z hz).cap,own_low (h.lr z hz).own hb o u,(h.lr z hz).far⟩,fun z hz=>⟨(h.lt z hz).cap,own_low (h.lt z hz).own hb o u,(h.lt z hz).far⟩⟩
theorem RwsI.led (h:RwsI wv wr nR vR RV nT vT TV nS vS SV nD vD DL) {pA rA tA sA:Option Addr} {pn pc rc tc sc:Nat} {pp:List Ppr} (hp:Pps wr wr.heap.size pA pn pp) (hR:vR=.slice rA nR rc) (hT:vT=.slice tA nT tc) (hS:vS=.slice sA nS sc):LedIn wr wr.heap.size ⟨pA,pn,pc,rA,nR,rc,tA,nT,tc,sA,nS,sc⟩ ⟨pp,RV.map Rv.r,TV.map Tv.r,SV⟩:=by
 subst hR hT hS
 refine ⟨hp,rcs_of (sq_rv ?_ (own_len h.r (fun _=>rfl) (by decide)) fun v hv=>⟨(h.lr v hv).is,(h.lr v hv).cap⟩),rts_of ?_ (own_len h.t (fun _=>rfl) (by decide)) fun v hv=>⟨(h.lt v hv).is,(h.lt v hv).cap⟩,sq_sg ?_ (own_len h.s (fun _=>rfl) (by decide))⟩
 ·exact Rd.of_own h.r
 ·exact Rd.of_own h.t
 ·exact Rd.of_own h.s
theorem RwsI.days (h:RwsI wv wr nR vR RV nT vT TV nS vS SV nD vD DL) {A:Option Addr} {c:Nat} (hD:vD=.slice A nD c):Is wr wr.heap.size A nD DL:=by
 subst hD
 have:=Rd.of_own h.d
 exact this
end
theorem setP_len {l:Led} (h:ledB l=true) {kn:Int} (hs:setE l kn=0):(setP l kn).length=l.rt.length:=by
 rw [set_ref h] at hs
 cases ho:firstP (refD l (tellK l kn l.rt.length) kn) l.rc with
 | some q=>rw [ho] at hs;simp at hs
 | none =>
   cases hR:(refL l (tellK l kn l.rt.length) kn (cntS l kn) (byL l kn)).2 with
   | false=>rw [ho,hR] at hs;simp at hs
   | true=>rw [setP_ref h kn hR,refL_len,byL_len]
theorem zip_true {L:List Int} {P:List (Int × Int)} (h:∀ (j:Nat) (y:Int) (d:Int × Int),L[j]?=some y→P[j]?=some d→d.1≤y∧y≤d.2):trueD L P=true:=by
 rw [trueD,List.all_eq_true]
 intro x hx
 obtain ⟨j,hj⟩:=List.getElem?_of_mem hx
 rw [List.getElem?_zip_eq_some] at hj
 obtain ⟨h1,h2⟩:=h j x.1 x.2 hj.1 hj.2
 simp [withinB,h1,h2]
theorem att_ok {l:Led} {src kn:Int} (h:retE l src kn=0):∃ i d,l.rt.findIdx? (fun t=>t.src == src)=some i∧daysX l src kn=(d,0)∧∀ last,∃ L,attX l src kn last=(L,0)∧checkTrueX l kn L=0∧L[i]?=some (if last=true then d.2 else d.1):=by
 have h0:=h
 unfold retE at h
 split at h
 ·rename_i hp
  have hl:=(pre_zero hp).1
  split at h
  ·cases h
  ·rename_i i hi
   split at h
   ·have hil:i<l.rt.length:=(List.findIdx?_eq_some_iff_getElem.1 hi).1
    have hlen:=setP_len hl h
    obtain ⟨d,hd⟩:∃ d,(setP l kn)[i]?=some d:=⟨_,List.getElem?_eq_getElem (by omega)⟩
    have hgd:(setP l kn).getD i (0,0)=d:=by rw [List.getD_eq_getElem?_getD,hd];rfl
    have hpos:=setP_pos hl h
    refine ⟨i,d,hi,by rw [daysX,if_pos h0,hi,Option.getD_some,hgd],fun last=>?_⟩
    have hck:∀ L:List Int,L.length=l.rt.length→trueD L (setP l kn)=true→checkTrueX l kn L=0:=fun L h1 h2=>by
     rw [checkTrueX,if_pos hp,trueE,if_pos ⟨h1,h⟩,h2];rfl
    cases last with
    | false =>
      refine ⟨(setP l kn).map Prod.fst,by simp only [attX,if_pos h0,hi];rfl,hck _ (by simp [hlen]) (zip_true fun j y e hy he=>?_),by rw [List.getElem?_map,hd];rfl⟩
      rw [List.getElem?_map,he] at hy
      cases hy
      exact ⟨Int.le_refl _,hpos j e he⟩
    | true =>
      refine ⟨((setP l kn).map Prod.fst).set i d.2,by simp only [attX,if_pos h0,hi,hgd];rfl,hck _ (by simp [hlen]) (zip_true fun j y e hy he=>?_),by rw [List.getElem?_set_self (by simp;omega)];rfl⟩
      by_cases hij:i=j
      ·subst hij
       rw [List.getElem?_set_self (by simp;omega)] at hy
       cases hy
       obtain rfl:d=e:=Option.some.inj (hd.symm.trans he)
       exact ⟨hpos i d hd,Int.le_refl _⟩
      ·rw [List.getElem?_set_ne hij,List.getElem?_map,he] at hy
       cases hy
       exact ⟨Int.le_refl _,hpos j e he⟩
   ·cases h
 ·rename_i hp
  exact absurd h hp
end Go.Proofs.YtmcmbicapdcfmaaGreat
