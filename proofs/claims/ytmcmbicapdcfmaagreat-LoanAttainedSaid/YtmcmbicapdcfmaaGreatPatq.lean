/- Layer 2 of the texts that the statements over histories take: Patq. -/
import Derived.Test.YtmcmbicapdcfmaaGreatParq
set_option linter.unusedVariables false
set_option linter.unusedSimpArgs false
set_option maxHeartbeats 16000000
namespace Go.Proofs.YtmcmbicapdcfmaaGreat
open Go.RowKit Go.Maps
theorem r_counts2 (a b k:Int) (w:World):Calls Tryz.prog 101 #[.int .i64 a,.int .i64 b,.int .i64 k] w fun e w'=>e=.returned (.bool (countsB a b k))∧w=w':=by
 go_enter Tryz.func101,Tryz.ntmps101
 go_wp2
 all_goals
  go_ret
  refine ⟨ret_bool ?_,rfl⟩
  simp_all [countsB]
  try omega
theorem r_counts2_v (a b k:Int) (v:Bool) (w:World) (h:countsB a b k=v):Calls Tryz.prog 101 #[.int .i64 a,.int .i64 b,.int .i64 k] w fun e w'=>e=.returned (.bool v)∧w=w':=h ▸ r_counts2 a b k w
theorem r_earliest (t:Rtn) (r:Rcp) (A B:Option Addr) (n c n2 c2:Nat) (w:World) (hd:0≤r.day) (hd2:r.day≤1000000) :
 Calls Tryz.prog 102 #[.agg #[.int .i64 t.src,.int .i64 t.rcp,.int .i64 t.per,.slice A n c,.int .i64 t.lo,.int .i64 t.hi,.int .i64 t.kn,.int .i64 t.un],.agg #[.int .i64 r.src,.int .i64 r.bor,.int .i64 r.pap,.slice B n2 c2,.int .i64 r.day,.int .i64 r.kn,.int .i64 r.un]] w fun e w'=>e=.returned (.int .i64 (max t.lo (r.day+1)))∧Below w.heap.size w w':=by
 have hw:IntKind.i64.wrap (r.day+1)=r.day+1:=IntWalk.i64_in _ (by omega)
 go_enter Tryz.func102,Tryz.ntmps102
 go_wp2
 go_ret
 exact ⟨rfl,by exact bel_⟩
def rcAt (src kn:Int) (r:Rcp):Bool:=decide (r.src=src) && countsB r.kn r.un kn
def rcIx (R:List Rcp) (src kn:Int):Option Nat:=R.findIdx? (rcAt src kn)
def ixI:Option Nat→Int
 | some i=>i
 | none=>-1
theorem any_get {α:Type} {l:List α} {p:α→Bool} {k j:Nat} (h:(l.take k).any p=false) (hj:j<k) (hl:j<l.length):p l[j]=false:=by
 have h2:=List.any_eq_false.1 h l[j] (by rw [List.mem_take_iff_getElem];exact ⟨j,by omega,rfl⟩)
 simpa using h2
theorem ix_found {α:Type} {l:List α} {p:α→Bool} {k:Nat} {x:α} (hx:l[k]?=some x) (hp:p x=true) (h:(l.take k).any p=false):l.findIdx? p=some k:=by
 have hlt:k<l.length:=(List.getElem?_eq_some_iff.1 hx).1
 rw [List.findIdx?_eq_some_iff_getElem]
 refine ⟨hlt,by rw [(List.getElem?_eq_some_iff.1 hx).2];exact hp,fun j hj=>?_⟩
 rw [any_get h hj (by omega)]
 simp
theorem ix_none {α:Type} {l:List α} {p:α→Bool} (h:l.any p=false):l.findIdx? p=none:=by
 rw [List.findIdx?_eq_none_iff]
 intro x hx
 have:=List.any_eq_false.1 h x hx
 simpa using this
theorem any_take_succ2 {α:Type} {l:List α} {k:Nat} {x:α} {p:α→Bool} (h:l[k]?=some x):(l.take (k+1)).any p=((l.take k).any p || p x):=by rw [take_snoc_some h,List.any_append];simp
set_option maxRecDepth 10000 in
theorem r_receiptOf (l:Led) (x:Lsl) (src kn:Int) (w:World) (hn:x.rn≤1000000) (hd:LedIn w w.heap.size x l) :
 Calls Tryz.prog 39 #[.agg #[.slice x.pA x.pn x.pc,.slice x.rA x.rn x.rc,.slice x.tA x.tn x.tc,.slice x.sA x.sn x.sc],.int .i64 src,.int .i64 kn] w fun e w'=>e=.returned (.int .i64 (ixI (rcIx l.rc src kn)))∧Below w.heap.size w w':=by
 obtain ⟨pA,pn,pc,rA,rn,rc,tA,tn,tc,sA,sn,sc⟩:=x
 show Calls _ _ #[.agg #[.slice pA pn pc,.slice rA rn rc,.slice tA tn tc,.slice sA sn sc],_,_] _ _
 have HR:Hid (Rcs w w.heap.size rA rn l.rc):=by show Sq _ _ _ _ _ _ _;exact hd.r
 have HL:Hid (l.rc.length=rn):=by show _=_;exact hd.r.len
 have hrn:rn≤1000000:=hn
 clear hd hn
 obtain ⟨q,hq⟩:∃ q,rcIx l.rc src kn=q:=⟨_,rfl⟩
 rw [hq]
 have HQ:=hd_ hq
 clear hq
 go_enter Tryz.func39,Tryz.ntmps39
 go_wp2
 go_loopw [7] (fun i wr=>∃ k:Nat,k≤rn∧i=.int .i64 k∧(l.rc.take k).any (rcAt src kn)=false∧Below w.heap.size w wr∧BoxA wr w.heap.size 32 #[.slice pA pn pc,.slice rA rn rc,.slice tA tn tc,.slice sA sn sc]) (fun i _=>rn - (intOf i).toNat)
 case atStart=>exact ⟨0,by omega,rfl,rfl,by exact bel_,BoxA.new _ _ _⟩
 case round =>
  obtain ⟨k,hk,rfl,hany,hB,hbx⟩:=hrel
  have HA:=hd_ hany
  clear hany
  have hs0:=hB.size
  have kx:=hbx.cell
  have zx:=hbx.lt
  by_cases hlt:k<rn
  ·obtain ⟨b,o,r,rfl,hb,hx,A1,n1,c1,⟨h0,h1,h2,h3,h4,h5,h6⟩,hi1,hc1,hm1⟩:=(Sq.ext HR.out abR hB lr_).at_ hlt
   have HX:=hd_ hx
   have hbr:b<wr.heap.size:=by omega
   clear hx hi1
   have HB2:=hd_ (hB.alloc hs0 (.cells #[.int .i64 r.src,.int .i64 r.bor,.int .i64 r.pap,.slice A1 n1 c1,.int .i64 r.day,.int .i64 r.kn,.int .i64 r.un] 79))
   have HX2:=hd_ (hbx.alloc (.cells #[.int .i64 r.src,.int .i64 r.bor,.int .i64 r.pap,.slice A1 n1 c1,.int .i64 r.day,.int .i64 r.kn,.int .i64 r.un] 79))
   by_cases he:r.src=src
   ·have hed:(r.src == src)=true:=by simpa using he
    have HE:=hd_ he
    clear he
    cases hc:countsB r.kn r.un kn with
    | true =>
      have ho:q=some k:=by rw [← HQ.out];exact ix_found HX.out (by simp [rcAt,HE.out,hc]) HA.out
      subst ho
      have HC:=hd_ hc
      clear hc
      go_wp2_with (go_at_call 101;refine (r_counts2_v _ _ _ true _ HC.out).mono ?_;rintro e w1 ⟨rfl,rfl⟩)
      go_ret
      exact ⟨rfl,HB2.out⟩
    | false =>
      have HF:Hid ((l.rc.take (k+1)).any (rcAt src kn)=false):=by show _=_;rw [any_take_succ2 HX.out,HA.out];simp [rcAt,hc]
      have HC:=hd_ hc
      clear hc
      go_wp2_with (go_at_call 101;refine (r_counts2_v _ _ _ false _ HC.out).mono ?_;rintro e w1 ⟨rfl,rfl⟩)
      go_roundw
      case rel=>exact ⟨k+1,by omega,by go_num,HF.out,HB2.out,HX2.out⟩
      case measure=>exact ms_
   ·have hed:(r.src == src)=false:=by simpa using he
    have HF:Hid ((l.rc.take (k+1)).any (rcAt src kn)=false):=by show _=_;rw [any_take_succ2 HX.out,HA.out];simp [rcAt,he]
    clear he
    go_wp2
    go_roundw
    case rel=>exact ⟨k+1,by omega,by go_num,HF.out,HB2.out,HX2.out⟩
    case measure=>exact ms_
  ·have hkn:Hid (k=rn):=by show _=_;omega
   have ho:q=none:=by
    have:=HA.out
    rw [List.take_of_length_le (by rw [HL.out,hkn.out];exact lr_)] at this
    rw [← HQ.out]
    exact ix_none this
   subst ho
   go_wp2
   go_ret
   exact ⟨rfl,hB⟩
structure Vw where
 x:Lsl
 kn:Int
 (TA:Option Addr) (Tn Tc:Nat)
 (DA:Option Addr) (Dn Dc:Nat)
abbrev vwV (v:Vw):Value:=.agg #[.slice v.x.pA v.x.pn v.x.pc,.slice v.x.rA v.x.rn v.x.rc,.slice v.x.tA v.x.tn v.x.tc,.slice v.x.sA v.x.sn v.x.sc,.int .i64 v.kn,.slice v.TA v.Tn v.Tc,.slice v.DA v.Dn v.Dc]
theorem r_Has2_v (l:List Int) (v:Int) (q:Bool) (A:Option Addr) (n c:Nat) (w:World) (hn:n≤9223372036854775807) (hd:Is w w.heap.size A n l) (h:decide (v∈l)=q) :
 Calls Tryz.prog 18 #[.slice A n c,.int .i64 v] w fun e w'=>e=.returned (.bool q)∧Below w.heap.size w w':=h ▸ r_Has2 l v A n c w hn hd
set_option maxRecDepth 10000 in
theorem r_isOf (l:Led) (v:Vw) (i:Nat) (r:Rcp) (pap leaf:Int) (w:World) (hn:v.x.rn≤1000000) (hd:LedIn w w.heap.size v.x l) (hr:l.rc[i]?=some r) :
 Calls Tryz.prog 143 #[vwV v,.int .i64 i,.agg #[.int .i64 pap,.int .i64 leaf]] w fun e w'=>e=.returned (.bool (countsB r.kn r.un v.kn && isOfB pap leaf r))∧Below w.heap.size w w':=by
 obtain ⟨⟨pA,pn,pc,rA,rn,rc,tA,tn,tc,sA,sn,sc⟩,kn,TA,Tn,Tc,DA,Dn,Dc⟩:=v
 show Calls _ _ #[.agg #[.slice pA pn pc,.slice rA rn rc,.slice tA tn tc,.slice sA sn sc,.int .i64 kn,.slice TA Tn Tc,.slice DA Dn Dc],_,_] _ (fun e w'=>e=.returned (.bool (countsB r.kn r.un kn && isOfB pap leaf r))∧Below w.heap.size w w')
 have HR:Hid (Rcs w w.heap.size rA rn l.rc):=by show Sq _ _ _ _ _ _ _;exact hd.r
 have hrn:rn≤1000000:=hn
 have hi:i<rn:=by rw [← HR.out.len];exact (List.getElem?_eq_some_iff.1 hr).1
 obtain ⟨b,o,r',rfl,hb,hx,A1,n1,c1,⟨h0,h1,h2,h3,h4,h5,h6⟩,hi1,hc1,hm1⟩:=HR.out.at_ hi
 obtain rfl:r=r':=Option.some.inj (hr.symm.trans hx)
 have hn1:n1≤9223372036854775807:=by have:maxLen≤9223372036854775807:=(by decide);omega
 have HI:Hid (∀ W:World,Below w.heap.size w W→Is W W.heap.size A1 n1 r.lv):=by show ∀ _,_;exact fun W hW=>hi1.now hW
 clear hd hn hr hx hi1
 cases hc:countsB r.kn r.un kn with
 | false =>
   have HC:=hd_ hc
   clear hc
   go_enter Tryz.func143,Tryz.ntmps143
   go_wp2_with (go_at_call 101;refine (r_counts2_v _ _ _ false _ HC.out).mono ?_;rintro e w1 ⟨rfl,rfl⟩)
   go_ret
   exact ⟨rfl,by exact bel_⟩
 | true =>
   have HC:=hd_ hc
   clear hc
   by_cases hp:r.pap=pap
   ·have hpd:(r.pap == pap)=true:=by simpa using hp
    have hres:(true && isOfB pap leaf r)=decide (leaf∈r.lv):=by simp [isOfB,hp]
    rw [hres]
    clear hp hres
    go_enter Tryz.func143,Tryz.ntmps143
    go_wp2_with (first | (go_at_call 101;refine (r_counts2_v _ _ _ true _ HC.out).mono ?_;rintro e w1 ⟨rfl,rfl⟩) | (go_at_call 18;refine (r_Has2 r.lv leaf A1 n1 c1 _ hn1 (HI.out _ (by exact bel_))).mono ?_;rintro e w2 ⟨rfl,hb2⟩;have HB2:Below w.heap.size w w2:=bt_ (by exact bel_) hb2))
    go_ret
    exact ⟨rfl,HB2⟩
   ·have hpd:(r.pap == pap)=false:=by simpa using hp
    have hres:(true && isOfB pap leaf r)=false:=by simp [isOfB,hp]
    rw [hres]
    clear hp hres
    go_enter Tryz.func143,Tryz.ntmps143
    go_wp2_with (go_at_call 101;refine (r_counts2_v _ _ _ true _ HC.out).mono ?_;rintro e w1 ⟨rfl,rfl⟩)
    go_ret
    exact ⟨rfl,by exact bel_⟩
end Go.Proofs.YtmcmbicapdcfmaaGreat
