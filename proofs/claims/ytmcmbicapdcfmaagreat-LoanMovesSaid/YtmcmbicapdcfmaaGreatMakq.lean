/- Layer 2 of the texts that LoanMoves takes: Makq. -/
import Derived.Test.YtmcmbicapdcfmaaGreatMajq
set_option linter.unusedVariables false
set_option linter.unusedSimpArgs false
set_option maxHeartbeats 16000000
namespace Go.Proofs.YtmcmbicapdcfmaaGreat
open Go.RowKit Go.Shelf Go.Maps
attribute [local go_sem] Oper.semAt_some
def marks (l:List Nat):List Deferred:=l.map fun D=>{ target:=.collected D,args:=#[] }
structure Marked (base:Nat) (l:List Nat) (W:World):Prop where
 at_:∀ D∈l,W.heap[D]?=some (.deferred (some []))
 ge:∀ D∈l,base≤D
 nodup:l.Nodup
theorem Marked.keep {base:Nat} {l:List Nat} {W W':World} (h:Marked base l W) (hk:∀ D∈l,W'.heap[D]?=W.heap[D]?):Marked base l W' :=
 ⟨fun D hD=>(hk D hD).trans (h.at_ D hD),h.ge,h.nodup⟩
theorem Marked.lt {base:Nat} {l:List Nat} {W:World} (h:Marked base l W) {D:Nat} (hD:D∈l):D<W.heap.size:=block_lt (h.at_ D hD)
theorem Marked.kept {base:Nat} {l:List Nat} {W W':World} {row:Option Nat} (h:Marked base l W) (hg:W.grownBy W' row) (hr:∀ r,row=some r→r ∉ l):Marked base l W' :=
 h.keep fun D hD=>hg.block D (h.lt hD) fun e=>hr D e.symm hD
theorem leaves_marks {F:Fence} {n:Nat} {P:Program} {fn:Func} {tmps:Array Value} {R:Ending→World→Prop} {base:Nat} (l:List Nat):∀ (W:World),Marked base l W →
 (∀ W',Below base W W'→(∀ k,k ∉ l→W'.heap[k]?=W.heap[k]?)→LeavesInM F n P fn tmps R [] .returning W')→LeavesInM F n P fn tmps R (marks l) .returning W:=by
 induction l with
 | nil=>intro W _ h;exact h W (Below.refl _ _) fun _ _=>rfl
 | cons D l ih =>
   intro W hM h
   have hD:=hM.at_ D (by simp)
   have hnd:=List.nodup_cons.1 hM.nodup
   refine ⟨by simp,.inl ⟨D,_,rfl,run_takeDeferred hD,ih _ ⟨fun E hE=>?_,fun E hE=>hM.ge E (by simp [hE]),hnd.2⟩ fun W' hb hk=>h W' ?_ fun k hk'=>?_⟩⟩
   ·rw [World.putObj_heap_other (fun e=>hnd.1 (by rw [← e];exact hE))]
    exact hM.at_ E (by simp [hE])
   ·refine Below.trans (b:=W.putObj D (.deferred none)) ⟨rfl,rfl,rfl,by simp,fun k hk=>World.putObj_heap_other (by have:=hM.ge D (by simp);omega)⟩ hb
   ·have h1:=hk k (fun e=>hk' (by simp [e]))
    rw [h1,World.putObj_heap_other (fun e=>hk' (by simp [e]))]
theorem setObj'_grown (W:World) (b:Nat) (o:Obj):W.grownBy (setObj' W b o) (some b) :=
 ⟨rfl,rfl,rfl,by simp [setObj'],fun k _ hk=>setObj'_other (fun e=>hk (by rw [e])) o⟩
attribute [local go_sem] Oper.semAt_some
def cutQ (R:Act→World→Prop):Exit→Act→World→Prop
 | .normal,a,w=>R a w
 | _,_,_=>False
theorem wpIn_cut {F:Fence} {n:Nat} {P:Program} {c:Code} {Q:Exit→Act→World→Prop} {a:Act} {w:World} (R:Act→World→Prop) (h:c.wpIn F n P (cutQ R) a w) (h2:∀ a' w',R a' w'→Q .normal a' w'):c.wpIn F n P Q a w :=
 wpIn_mono h fun e a' w' hr=>by cases e <;> first | exact h2 _ _ hr | exact hr.elim
structure KeepQ (b:Nat) (P:Nat→Prop) (W W':World):Prop where
 size:W.heap.size≤W'.heap.size
 blk:∀ k,P k→W'.heap[k]?=W.heap[k]?
 new:∀ k,b≤k→k<W.heap.size→W'.heap[k]?=W.heap[k]?
section
variable {b:Nat} {P:Nat→Prop} {W W':World}
theorem KeepQ.refl (b:Nat) (P:Nat→Prop) (W:World):KeepQ b P W W:=⟨lr_,fun _ _=>rfl,fun _ _ _=>rfl⟩
theorem KeepQ.trans {X Y Z:World} (h:KeepQ b P X Y) (k:KeepQ b P Y Z):KeepQ b P X Z:=⟨Nat.le_trans h.size k.size,fun i hi=>(k.blk i hi).trans (h.blk i hi),fun i hb hi=>(k.new i hb (Nat.lt_of_lt_of_le hi h.size)).trans (h.new i hb hi)⟩
theorem KeepQ.from (h:KeepQ b P W W') {B:Nat} (hB:b≤B):KeepsFrom B W W':=⟨h.size,fun k o h1 h2 _=>(h.new k (by omega) (block_lt h2)).trans h2⟩
theorem KeepQ.box (h:KeepQ b P W W') {B:Nat} {t:TypeId} {cs:Array Value} (hb:BoxA W B t cs) (hB:b≤B):BoxA W' B t cs:=(h.new B hB hb.lt).trans hb
theorem KeepQ.of_below {B:Nat} (h:Below B W W') (hP:∀ k,P k→k<B) (hB:W.heap.size≤B):KeepQ b P W W':=⟨h.size,fun k hk=>h.block k (hP k hk),fun k _ hk=>h.block k (by omega)⟩
end
abbrev Sc:=(Nat × St) × (Nat × St) × (Nat × St)
theorem ownFrom_keepP {β:Type} {B:Nat} {P:Nat→Prop} (V0:World) (hP:∀ k,P k→k<B) (hV:∀ k,P k→k<V0.heap.size):OwnFrom B (fun (_:β) W=>KeepP P V0 W):=fun _ X Y row hs hg hr =>
 ⟨Nat.le_trans hs.size hg.size,fun k hk=>(hg.block k (Nat.lt_of_lt_of_le (hV k hk) hs.size) fun e=>by have:=(hr k e.symm).1;have:=hP k hk;omega).trans (hs.blk k hk)⟩
end Go.Proofs.YtmcmbicapdcfmaaGreat
namespace Go.Proofs.YtmcmbicapdcfmaaGreat
open Go.RowKit Go.Maps
theorem l_index (xs:List Int) (v:Int) (A:Option Addr) (n c:Nat) (w:World) (hn:n≤1000000) (h:Is w w.heap.size A n xs) :
 Calls Tryz.prog 123 #[.slice A n c,.int .i64 v] w fun e w'=>(∃ r:Int,e=.returned (.int .i64 r)∧(0≤r↔v∈xs))∧w=w':=by
 have HI:=hd_ h
 have HL:=hd_ h.len
 clear h
 go_enter Tryz.func123,Tryz.ntmps123
 go_wp2
 go_loop [8] (fun i=>∃ k:Nat,k≤n∧i=.int .i64 k∧v ∉ xs.take k) (fun i=>n - (intOf i).toNat)
 case atStart=>exact ⟨0,by omega,rfl,by simp⟩
 case round =>
  obtain ⟨k,hk,rfl,ho⟩:=hrel
  have HO:=hd_ ho
  clear ho
  by_cases hlt:k<n
  ·obtain ⟨b,o,x,rfl,hb,hx,hc⟩:=HI.out.at_ hlt
   have HX:=hd_ hx
   clear hx
   by_cases hw:v=x
   ·have hv:v∈xs:=by rw [hw];exact List.mem_of_getElem? HX.out
    have HV:Hid (v∈xs):=hv
    have h1:(v == x)=true:=by simpa using hw
    clear hw hv
    go_wp2
    go_ret
    exact ⟨⟨k,rfl,fun _=>HV.out,fun _=>by omega⟩,rfl⟩
   ·have h1:(v == x)=false:=by simpa using hw
    have H1:Hid (v ∉ xs.take (k+1)):=by
     show ¬ _
     rw [take_snoc_some HX.out,List.mem_append]
     rintro (h | h)
     ·exact HO.out h
     ·exact hw (by simpa using h)
    clear hw
    go_wp2
    go_round
    case rel=>exact ⟨k+1,by omega,by go_num,H1.out⟩
    case measure=>exact ms_
  ·have h1:v ∉ xs:=by
    have:=HO.out
    rwa [List.take_of_length_le (by rw [HL.out];omega)] at this
   have HV:Hid (v ∉ xs):=h1
   clear h1
   go_wp2
   go_ret
   exact ⟨⟨-1,rfl,fun h=>by omega,fun h=>absurd h HV.out⟩,rfl⟩
theorem l_contains (xs:List Int) (v:Int) (r:Bool) (A:Option Addr) (n c:Nat) (w:World) (hn:n≤1000000) (h:Is w w.heap.size A n xs) (hr:decide (v∈xs)=r) :
 Calls Tryz.prog 71 #[.slice A n c,.int .i64 v] w fun e w'=>e=.returned (.bool r)∧w=w':=by
 have HI:=hd_ h
 have HR:=hd_ hr
 clear h hr
 go_enter Tryz.func71,Tryz.ntmps71
 go_wp2_with (go_at_call 123;refine (l_index xs v _ _ _ _ hn HI.out).mono ?_;rintro e w1 ⟨⟨q,rfl,hq⟩,rfl⟩)
 go_ret
 exact ⟨ret_bool (by rw [← HR.out]),rfl⟩
end Go.Proofs.YtmcmbicapdcfmaaGreat
