/- Layer 2 of the texts that the statements over histories take: Paqq. -/
import Derived.Test.YtmcmbicapdcfmaaGreatPapq
import Derived.Test.YtmcmbicapdcfmaaGreatPanq
set_option linter.unusedVariables false
set_option linter.unusedSimpArgs false
set_option maxHeartbeats 16000000
namespace Go.Proofs.YtmcmbicapdcfmaaGreat
open Go.RowKit Go.Maps
theorem wpList_app2 {P:Program} {w:World} {ops:Array Oper} {rest:List Oper} {o:Oper} {a:Act} {Q:Exit→Act→World→Prop} (hgd:o.guard=none) (s x:Operand) (t:TypeId)
 (hop:o.op=.call { callee:=.builtin .append,args:=#[s,x],argTypes:=#[t,t] })
 {base B:Nat} {e:TypeId} {i:TypeInfo} {z:Value} {size bytes:Nat} (ht:P.underlying t=some (.slice e)) (hi:P.info? e=some i) (hz:i.zero=some z)
 (hsize:i.size=size) (hby:i.bytes=bytes) (hzs:z.cells.size=size) (hsz:0<size) {v:Value} {n m c:Nat} {xs news:List Value} {A:Option Addr} (hs:a.eval s=v) (hx:a.eval x=.slice A m c) (ho:w.ownsRow base e size v n xs)
 (hr:Rd w B size A m news) (h1:∀ u∈news,u.oneCell'=true) (h63:n+m≤maxLen) (hb:(n+m)*bytes≤140737488355328) (hbase:base≤w.heap.size)
 (h:∀ v' w',w'.ownsRow base e size v' (n+m) (xs ++ news)→w.grownBy w' v.ownBlock→Below base w w'→wpList P ops Q rest (a.put o.dst v') w'):wpList P ops Q (o :: rest) a w:=by
 refine wpList_plain hgd fun K hK=>?_
 obtain ⟨v',w',g1,g2,g3⟩:=run_app (P:=P) w (ty:=o.type) ht hi hz hsize hby hzs hsz ho hr h1 h63 hb hbase (c:=c)
 unfold Oper.wp execOp
 simp only [hop,resolve,invoke,builtin,Sem.run_bind,Sem.run_pure,Result.andThen_ok,List.map_toArray,List.map_cons,List.map_nil,hs,hx,g1]
 exact hK _ _ (h v' w' g2 g3 ((Below.refl base w).grown g3 hbase fun k e=>own_le ho e))
theorem own_emptyB2 (w:World) (t:TypeId) (size base:Nat) (h:base≤w.heap.size):(w.alloc (.cells #[] t)).ownsRow base t size (.slice (some ⟨w.heap.size,0,none⟩) 0 0) 0 []:=own_dn (own_empty w t size) h
def RetRow (t:TypeId) (size n:Nat) (xs:List Value) (w:World) (e:Ending) (w':World):Prop:=∃ v,e=.returned v∧Below w.heap.size w w'∧w'.ownsRow w.heap.size t size v n xs
theorem infoSpan:(Tryz.prog.info? 133).map (fun i=>(i.zero,i.size,i.bytes))=some (some (.agg #[.int .i64 0,.int .i64 0]),2,16):=by kernel_rfl
set_option maxRecDepth 100000 in
theorem p_CloneSpan (news:List Value) (A:Option Addr) (n c:Nat) (w:World) (hn:n≤100000) (hA:A=none→c=0) (hr:Rd w w.heap.size 2 A n news) (h1:∀ u∈news,u.oneCell'=true) :
 Calls Tryz.prog 156 #[.slice A n c] w (RetRow 133 2 n news w):=by
 obtain ⟨i0,hi,hz0,hz1,hz2⟩:=info_parts infoSpan
 have qT:∀ (w:World) (a:Option Addr) (n c n' c':Nat),(binOp .eql 113 (.slice a n c) (.slice none n' c')).run Tryz.prog w=.ok (.bool a.isNone) w:=fun w a n c n' c'=>Lib.run_eql_slice_nil w _ _ a n c n' c' Tryz.underlying113
 cases A with
 | none =>
   obtain rfl:=hA rfl
   have hn0:n=0:=by
    rcases Nat.eq_zero_or_pos n with h | h
    ·exact h
    ·obtain ⟨_,_,e,_⟩:=hr.2 h;cases e
   subst hn0
   obtain rfl:news=[]:=List.eq_nil_of_length_eq_zero (by have:=hr.1;omega)
   go_enter Tryz.func156,Tryz.ntmps156
   go_wp2
   go_ret
   exact ⟨_,rfl,Below.refl _ _,World.ownsRow_nil _ _ _ _⟩
 | some p =>
   have HR:=hd_ hr
   have H1:=hd_ h1
   clear hr h1
   go_enter Tryz.func156,Tryz.ntmps156
   go_wp2_with (at_builtin;refine wpList_app2 rfl (.tmp 5) (.tmp 6) 113 rfl (base:=w.heap.size) (B:=w.heap.size) (e:=133) (i:=i0) (size:=2) (bytes:=16) Tryz.underlying113 hi hz0 hz1 hz2 rfl (by decide) rfl rfl (n:=0) (xs:=[]) (own_emptyB2 w 133 2 w.heap.size lr_) (m:=n) (news:=news) (HR.out.alloc lr_ _) H1.out (by unfold maxLen;omega) (by omega) (by simp) ?_;intro v2 w2 hown2 hgrow2 hb2)
   go_ret
   refine ⟨v2,rfl,(show Below w.heap.size w (w.alloc (.cells #[] 133)) by exact bel_).trans hb2,?_⟩
   have h:=hown2
   simp only [Nat.zero_add,List.nil_append] at h
   exact h
theorem infoSight:(Tryz.prog.info? 70).map (fun i=>(i.zero,i.size,i.bytes))=some (some (.agg #[.int .i64 0,.int .i64 0,.int .i64 0,.int .i64 0,.int .i64 0,.int .i64 0,.int .i64 0]),7,56):=by kernel_rfl
theorem take_eq_succ2 {α:Type} {xs ys:List α} {k:Nat} {x y:α} (hx:xs[k]?=some x) (hy:ys[k]?=some y) (h:xs.take k=ys.take k):xs.take (k+1)=ys.take (k+1)↔x=y:=by
 rw [take_snoc_some hx,take_snoc_some hy,h]
 simp
theorem r_Same2 (xs ys:List (Int)) (v:Bool) (A B:Option Addr) (n c m d:Nat) (w:World) (hn:n≤1000000) (hm:m≤1000000) (hx:Is w w.heap.size A n xs) (hy:Is w w.heap.size B m ys) (hv:decide (xs=ys)=v) :
 Calls Tryz.prog 33 #[.slice A n c,.slice B m d] w fun e w'=>e=.returned (.bool v)∧Below w.heap.size w w':=by
 have HX:=hd_ hx
 have HY:=hd_ hy
 have HLX:=hd_ hx.len
 have HLY:=hd_ hy.len
 have HV:=hd_ hv
 clear hx hy hv
 by_cases hnm:n=m
 ·subst hnm
  go_enter Tryz.func33,Tryz.ntmps33
  go_wp2
  go_loopw [5] (fun i wr=>∃ k:Nat,k≤n∧i=.int .i64 k∧xs.take k=ys.take k∧Below w.heap.size w wr) (fun i _=>n - (intOf i).toNat)
  case atStart=>exact ⟨0,by omega,rfl,by simp,Below.refl _ _⟩
  case round =>
   obtain ⟨k,hk,rfl,hpre,hB⟩:=hrel
   have HP:=hd_ hpre
   clear hpre
   have hs0:w.heap.size≤wr.heap.size:=hB.size
   by_cases hlt:k<n
   ·obtain ⟨b,o,x,rfl,hb,hxk,hcx⟩:=(HX.out.ext hB lr_).at_ hlt
    obtain ⟨b',o',y,rfl,hb',hyk,hcy⟩:=(HY.out.ext hB lr_).at_ hlt
    have HXK:=hd_ hxk
    have HYK:=hd_ hyk
    clear hxk hyk
    have hbr:b<wr.heap.size:=by omega
    have hbr':b'<wr.heap.size:=by omega
    have HS:=hd_ (take_eq_succ2 HXK.out HYK.out HP.out)
    by_cases hxy:x=y
    ·have hb1:(x != y)=false:=by simp [hxy]
     have HXY:=hd_ hxy
     clear hxy
     go_wp2_with fail
     (refine rg_ ?_;(repeat (go_big_quiet_step (fail)));refine qn_ fun w1 hb1 hc1 hf1=>?_)
     go_wp2_with fail
     go_roundw
     case rel=>exact ⟨k+1,by omega,by go_num,HS.out.2 HXY.out,bt_ hB hb1⟩
     case measure=>exact ms_
    ·have hb1:(x != y)=true:=by simp [hxy]
     have HXY:=hd_ hxy
     clear hxy
     go_wp2_with fail
     (refine rg_ ?_;(repeat (go_big_quiet_step (fail)));refine qn_ fun w1 hb1 hc1 hf1=>?_)
     go_wp2_with fail
     go_ret
     refine ⟨ret_bool ?_,bt_ hB hb1⟩
     rw [← HV.out]
     symm
     apply decide_eq_false
     intro e
     exact HXY.out (HS.out.1 (by rw [e]))
   ·have hkn:k=n:=by omega
    have HKn:=hd_ hkn
    clear hkn
    go_wp2
    go_ret
    refine ⟨ret_bool ?_,hB⟩
    rw [← HV.out]
    symm
    apply decide_eq_true
    have h1:=HP.out
    rwa [List.take_of_length_le (by rw [HLX.out,HKn.out];exact lr_),List.take_of_length_le (by rw [HLY.out,HKn.out];exact lr_)] at h1
 ·have h1:((n:Int) != (m:Int))=true:=by simp;omega
  go_enter Tryz.func33,Tryz.ntmps33
  go_wp2
  go_ret
  refine ⟨ret_bool ?_,Below.refl _ _⟩
  rw [← HV.out]
  symm
  apply decide_eq_false
  intro e
  exact hnm (by rw [← HLX.out,← HLY.out,e])
theorem r_SameFols (xs ys:List (Int × Int)) (v:Bool) (A B:Option Addr) (n c m d:Nat) (w:World) (hn:n≤1000000) (hm:m≤1000000) (hx:Sq QF 2 w w.heap.size A n xs) (hy:Sq QF 2 w w.heap.size B m ys) (hv:decide (xs=ys)=v) :
 Calls Tryz.prog 76 #[.slice A n c,.slice B m d] w fun e w'=>e=.returned (.bool v)∧Below w.heap.size w w':=by
 have HX:=hd_ hx
 have HY:=hd_ hy
 have HLX:=hd_ hx.len
 have HLY:=hd_ hy.len
 have HV:=hd_ hv
 clear hx hy hv
 by_cases hnm:n=m
 ·subst hnm
  go_enter Tryz.func76,Tryz.ntmps76
  go_wp2
  go_loopw [5] (fun i wr=>∃ k:Nat,k≤n∧i=.int .i64 k∧xs.take k=ys.take k∧Below w.heap.size w wr) (fun i _=>n - (intOf i).toNat)
  case atStart=>exact ⟨0,by omega,rfl,by simp,Below.refl _ _⟩
  case round =>
   obtain ⟨k,hk,rfl,hpre,hB⟩:=hrel
   have HP:=hd_ hpre
   clear hpre
   have hs0:w.heap.size≤wr.heap.size:=hB.size
   by_cases hlt:k<n
   ·obtain ⟨b,o,⟨x,x2⟩,rfl,hb,hxk,hcx,hcx2⟩:=(Sq.ext HX.out abF hB lr_).at_ hlt
    obtain ⟨b',o',⟨y,y2⟩,rfl,hb',hyk,hcy,hcy2⟩:=(Sq.ext HY.out abF hB lr_).at_ hlt
    have HXK:=hd_ hxk
    have HYK:=hd_ hyk
    clear hxk hyk
    have hbr:b<wr.heap.size:=by omega
    have hbr':b'<wr.heap.size:=by omega
    have HS:=hd_ (take_eq_succ2 HXK.out HYK.out HP.out)
    by_cases hxy:x=y
    ·by_cases hxy2:x2=y2
     ·have HXY:Hid ((x,x2)=(y,y2)):=by show _=_;rw [hxy,hxy2]
      subst hxy hxy2
      go_wp2_with fail
      (refine rg_ ?_;(repeat (go_big_quiet_step (fail)));refine qn_ fun w1 hb1 hc1 hf1=>?_)
      go_wp2_with fail
      go_roundw
      case rel=>exact ⟨k+1,by omega,by go_num,HS.out.2 HXY.out,bt_ hB hb1⟩
      case measure=>exact ms_
     ·have HXY:Hid (¬ (x,x2)=(y,y2)):=by show ¬ _;intro e;injection e with e1 e2;exact hxy2 e2
      go_wp2_with fail
      (refine rg_ ?_;(repeat (go_big_quiet_step (fail)));refine qn_ fun w1 hb1 hc1 hf1=>?_)
      go_wp2_with fail
      go_ret
      refine ⟨ret_bool ?_,bt_ hB hb1⟩
      rw [← HV.out]
      symm
      apply decide_eq_false
      intro e
      exact HXY.out (HS.out.1 (by rw [e]))
    ·have HXY:Hid (¬ (x,x2)=(y,y2)):=by show ¬ _;intro e;injection e with e1 e2;exact hxy e1
     go_wp2_with fail
     (refine rg_ ?_;(repeat (go_big_quiet_step (fail)));refine qn_ fun w1 hb1 hc1 hf1=>?_)
     go_wp2_with fail
     go_ret
     refine ⟨ret_bool ?_,bt_ hB hb1⟩
     rw [← HV.out]
     symm
     apply decide_eq_false
     intro e
     exact HXY.out (HS.out.1 (by rw [e]))
   ·have hkn:k=n:=by omega
    have HKn:=hd_ hkn
    clear hkn
    go_wp2
    go_ret
    refine ⟨ret_bool ?_,hB⟩
    rw [← HV.out]
    symm
    apply decide_eq_true
    have h1:=HP.out
    rwa [List.take_of_length_le (by rw [HLX.out,HKn.out];exact lr_),List.take_of_length_le (by rw [HLY.out,HKn.out];exact lr_)] at h1
 ·have h1:((n:Int) != (m:Int))=true:=by simp;omega
  go_enter Tryz.func76,Tryz.ntmps76
  go_wp2
  go_ret
  refine ⟨ret_bool ?_,Below.refl _ _⟩
  rw [← HV.out]
  symm
  apply decide_eq_false
  intro e
  exact hnm (by rw [← HLX.out,← HLY.out,e])
end Go.Proofs.YtmcmbicapdcfmaaGreat
