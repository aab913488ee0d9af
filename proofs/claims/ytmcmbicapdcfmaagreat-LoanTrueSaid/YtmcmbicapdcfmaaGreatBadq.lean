/- Layer 2 of the texts that LoanBack takes: Badq. -/
import Derived.Test.YtmcmbicapdcfmaaGreatBabq
import Derived.Test.YtmcmbicapdcfmaaGreatBacq
set_option linter.unusedVariables false
set_option linter.unusedSimpArgs false
set_option maxHeartbeats 16000000
namespace Go.Proofs.YtmcmbicapdcfmaaGreat
open Go.RowKit
theorem Rd.new (w:World) (cs:Array Value) (t:TypeId) (size n b:Nat) (hb:w.heap.size=b) (h:cs.size=n*size):Rd (w.alloc (.cells cs t)) (w.alloc (.cells cs t)).heap.size size (some ⟨b,0,none⟩) n cs.toList:=by
 subst hb
 refine ⟨by simpa using h,fun _=>⟨_,0,rfl,by simp,fun j u hu=>?_⟩⟩
 have h1:=World.news_of_block (heap_alloc_new w (.cells cs t)) j u hu
 have hadd:(⟨w.heap.size,0,none⟩:Addr).add j=⟨w.heap.size,0+j,none⟩:=by unfold Addr.add;split <;> simp_all
 rwa [hadd] at h1
def Is (w:World) (B:Nat) (A:Option Addr) (n:Nat) (xs:List Int):Prop:=Rd w B 1 A n (xs.map fun x=>.int .i64 x)
theorem Is.len {w:World} {B n:Nat} {A:Option Addr} {xs:List Int} (h:Is w B A n xs):xs.length=n:=by
 have:=h.1
 simpa using this
theorem Is.at_ {w:World} {B n:Nat} {A:Option Addr} {xs:List Int} (h:Is w B A n xs) {k:Nat} (hk:k<n) :
 ∃ b o x,A=some ⟨b,o,none⟩∧b<B∧xs[k]?=some x∧w.cell? ⟨b,o+k,none⟩=some (.int .i64 x):=by
 obtain ⟨b,o,e,hb,hc⟩:=h.2 (by omega)
 have hl:=h.len
 have hx:xs[k]?=some xs[k]:=List.getElem?_eq_getElem (by omega)
 exact ⟨b,o,xs[k],e,hb,hx,hc k _ (by rw [List.getElem?_map,hx];rfl)⟩
theorem Is.ext {w w':World} {B n:Nat} {A:Option Addr} {xs:List Int} (h:Is w B A n xs) (hb:Below w.heap.size w w') (hB:B≤w.heap.size):Is w' B A n xs:=Rd.ext h hb hB
theorem Is.alloc {w:World} {B n:Nat} {A:Option Addr} {xs:List Int} (h:Is w B A n xs) (hB:B≤w.heap.size) (o:Obj):Is (w.alloc o) B A n xs:=Rd.alloc h hB o
theorem Is.more {w:World} {B B' n:Nat} {A:Option Addr} {xs:List Int} (h:Is w B A n xs) (hB:B≤B'):Is w B' A n xs:=Rd.more h hB
theorem p_within_v (n lo hi:Int) (v:Bool) (w:World) (h:withinB n lo hi=v) :
 Calls Tryz.prog 106 #[.int .i64 n,.int .i64 lo,.int .i64 hi] w fun e w'=>e=.returned (.bool v)∧w=w':=h ▸ p_within n lo hi w
theorem Ds.now {w w':World} {n:Nat} {A:Option Addr} {ds:List Deed} (h:Ds w w.heap.size A n ds) (hb:Below w.heap.size w w'):Ds w' w'.heap.size A n ds:=(Ds.ext h hb lr_).more hb.size
theorem Is.now {w w':World} {n:Nat} {A:Option Addr} {xs:List Int} (h:Is w w.heap.size A n xs) (hb:Below w.heap.size w w'):Is w' w'.heap.size A n xs:=(Is.ext h hb lr_).more hb.size
def daysOk (xs:List Int):Bool:=xs.all fun x=>withinB x 0 100000
theorem p_isDay_v (n:Int) (v:Bool) (w:World) (h:withinB n 0 100000=v) :
 Calls Tryz.prog 110 #[.int .i64 n] w fun e w'=>e=.returned (.bool v)∧w=w':=h ▸ p_isDay n w
theorem p_notDay (x:Int) (v:Bool) (bf:Nat) (w:World) (hb:bf<w.heap.size) (hc:w.cell? ⟨bf,0,none⟩=some (.func (.func 110) #[] #[])) (h:withinB x 0 100000=v) :
 Calls Tryz.prog 150 #[.int .i64 x,.pointer (some ⟨bf,0,none⟩)] w fun e w'=>e=.returned (.bool (!v))∧w=w':=by
 go_enter Tryz.func150,Tryz.ntmps150
 go_wp2_with (go_at_call 110;refine (p_isDay_v _ _ _ h).mono ?_;rintro e w1 ⟨rfl,rfl⟩)
 go_ret
 exact ⟨rfl,rfl⟩
theorem l_indexDays (xs:List Int) (bf:Nat) (A:Option Addr) (n c:Nat) (w:World) (hn:n≤1000) (hb0:bf<w.heap.size) (hc0:w.cell? ⟨bf,0,none⟩=some (.func (.func 110) #[] #[])) (h:Is w w.heap.size A n xs) :
 Calls Tryz.prog 171 #[.slice A n c,.func (.func 150) #[] #[.pointer (some ⟨bf,0,none⟩)]] w fun e w'=>(∃ r:Int,e=.returned (.int .i64 r)∧decide (0≤r)=!daysOk xs)∧w=w':=by
 have HI:=hd_ h
 have HL:=hd_ h.len
 clear h
 go_enter Tryz.func171,Tryz.ntmps171
 go_wp2
 go_loop [8] (fun i=>∃ k:Nat,k≤n∧i=.int .i64 k∧daysOk (xs.take k)=true) (fun i=>n - (intOf i).toNat)
 case atStart=>exact ⟨0,by omega,rfl,rfl⟩
 case round =>
  obtain ⟨k,hk,rfl,ho⟩:=hrel
  have HO:=hd_ ho
  clear ho
  by_cases hlt:k<n
  ·obtain ⟨b,o,x,rfl,hb,hx,hc⟩:=HI.out.at_ hlt
   have HX:=hd_ hx
   clear hx
   by_cases hw:withinB x 0 100000=true
   ·have h1:daysOk (xs.take (k+1))=true:=by
     have:=HO.out
     rw [daysOk,take_snoc_some HX.out,List.all_append]
     rw [daysOk] at this
     simp [this,hw]
    have H1:=hd_ h1
    clear h1
    go_wp2_with (go_at_call 150;refine (p_notDay _ true _ _ hb0 hc0 hw).mono ?_;rintro e w1 ⟨rfl,rfl⟩)
    go_round
    case rel=>exact ⟨k+1,by omega,by go_num,H1.out⟩
    case measure=>exact ms_
   ·have hw':withinB x 0 100000=false:=by simpa using hw
    have h1:daysOk xs=false:=by
     rw [daysOk,List.all_eq_false]
     exact ⟨x,List.mem_of_getElem? HX.out,by simp [hw']⟩
    have H1:=hd_ h1
    clear h1
    go_wp2_with (go_at_call 150;refine (p_notDay _ false _ _ hb0 hc0 hw').mono ?_;rintro e w1 ⟨rfl,rfl⟩)
    go_ret
    exact ⟨⟨k,rfl,by rw [H1.out];simp⟩,rfl⟩
  ·have h1:daysOk xs=true:=by
    have:=HO.out
    rwa [List.take_of_length_le (by rw [HL.out];omega)] at this
   have H1:=hd_ h1
   clear h1
   go_wp2
   go_ret
   exact ⟨⟨-1,rfl,by rw [H1.out];rfl⟩,rfl⟩
theorem l_containsDays (xs:List Int) (bf:Nat) (A:Option Addr) (n c:Nat) (w:World) (hn:n≤1000) (hb0:bf<w.heap.size) (hc0:w.cell? ⟨bf,0,none⟩=some (.func (.func 110) #[] #[])) (h:Is w w.heap.size A n xs) :
 Calls Tryz.prog 149 #[.slice A n c,.func (.func 150) #[] #[.pointer (some ⟨bf,0,none⟩)]] w fun e w'=>e=.returned (.bool (!daysOk xs))∧w=w':=by
 have HI:=hd_ h
 clear h
 go_enter Tryz.func149,Tryz.ntmps149
 go_wp2_with (go_at_call 171;refine (l_indexDays xs _ _ _ _ _ hn hb0 hc0 HI.out).mono ?_;rintro e w1 ⟨⟨r,rfl,hr⟩,rfl⟩)
 go_ret
 exact ⟨ret_bool (by rw [← hr]),rfl⟩
theorem l_areDays (xs:List Int) (A:Option Addr) (n c:Nat) (w:World) (hn:n≤1000) (h:Is w w.heap.size A n xs) :
 Calls Tryz.prog 118 #[.slice A n c,.func (.func 110) #[] #[]] w fun e w'=>e=.returned (.bool (daysOk xs))∧Below w.heap.size w w':=by
 have HI:=hd_ h
 clear h
 go_enter Tryz.func118,Tryz.ntmps118
 go_wp2_with (go_at_call 149;refine (l_containsDays xs w.heap.size _ _ _ _ hn (by simp) (by simp [go_sem]) (HI.out.now (by exact bel_))).mono ?_;rintro e w1 ⟨rfl,rfl⟩)
 go_ret
 exact ⟨ret_bool (by simp),by exact bel_⟩
theorem p_checkDays (xs:List Int) (A:Option Addr) (n c:Nat) (w:World) (hn:n≤1000) (h:Is w w.heap.size A n xs) :
 Calls Tryz.prog 63 #[.slice A n c] w fun e w'=>e=.returned (.int .i64 (errI (daysOk xs) 6))∧Below w.heap.size w w':=by
 have HI:=hd_ h
 clear h
 go_enter Tryz.func63,Tryz.ntmps63
 go_wp2_with (first | (go_at_call 118;refine (l_areDays xs _ _ _ _ hn HI.out).mono ?_;rintro e w1 ⟨rfl,hb1⟩;obtain ⟨hc1,hf1⟩:=bcell hb1;have HB1:Below w.heap.size w w1:=bt_ (by exact bel_) hb1;have hs1:=HB1.size) | (go_at_call 61;refine (p_verdict _ _ _).mono ?_;rintro e w1 ⟨rfl,rfl⟩))
 go_ret
 exact ⟨rfl,by exact bel_⟩
theorem l_or_errno (xs:List Int) (A:Option Addr) (n c:Nat) (w:World) (hn:n≤1000) (h:Is w w.heap.size A n xs) :
 Calls Tryz.prog 117 #[.slice A n c] w fun e w'=>e=.returned (.int .i64 (orL xs))∧w=w':=by
 have HI:=hd_ h
 have HL:=hd_ h.len
 clear h
 go_enter Tryz.func117,Tryz.ntmps117
 go_wp2
 go_loop [8] (fun i=>∃ k:Nat,k≤n∧i=.int .i64 k∧orL (xs.drop k)=orL xs) (fun i=>n - (intOf i).toNat)
 case atStart=>exact ⟨0,by omega,rfl,rfl⟩
 case round =>
  obtain ⟨k,hk,rfl,ho⟩:=hrel
  have HO:=hd_ ho
  clear ho
  by_cases hlt:k<n
  ·obtain ⟨b,o,x,rfl,hb,hx,hc⟩:=HI.out.at_ hlt
   have hd:xs.drop k=x :: xs.drop (k+1):=by
    have hk:k<xs.length:=(List.getElem?_eq_some_iff.1 hx).1
    rw [List.drop_eq_getElem_cons hk,(List.getElem?_eq_some_iff.1 hx).2]
   have hq:orL xs=if x=0 then orL (xs.drop (k+1)) else x:=by rw [← HO.out,hd];rfl
   have HQ:=hd_ hq
   clear hq hd hx
   go_wp2
   ·have hx:¬ x=0:=by simpa using ‹(x != 0)=true›
    go_ret
    exact ⟨ret_int (by rw [HQ.out,if_neg hx]),rfl⟩
   ·have hx:x=0:=by simpa using ‹(x != 0)=false›
    go_round
    case rel=>exact ⟨k+1,by omega,by go_num,by rw [HQ.out,if_pos hx]⟩
    case measure=>exact ms_
  ·have h1:orL xs=0:=by
    rw [← HO.out,List.drop_eq_nil_of_le (by rw [HL.out];omega)]
    rfl
   have H1:=hd_ h1
   clear h1
   go_wp2
   go_ret
   exact ⟨ret_int (by rw [H1.out]),rfl⟩
theorem p_first (xs:List Int) (v:Int) (A:Option Addr) (n c:Nat) (w:World) (hn:n≤1000) (h:Is w w.heap.size A n xs) (hv:orL xs=v) :
 Calls Tryz.prog 62 #[.slice A n c] w fun e w'=>e=.returned (.int .i64 v)∧w=w':=by
 subst hv
 have HI:=hd_ h
 clear h
 go_enter Tryz.func62,Tryz.ntmps62
 go_wp2_with (go_at_call 117;refine (l_or_errno xs _ _ _ _ hn HI.out).mono ?_;rintro e w1 ⟨rfl,rfl⟩)
 go_ret
 exact ⟨rfl,rfl⟩
end Go.Proofs.YtmcmbicapdcfmaaGreat
