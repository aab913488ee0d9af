/- Layer 2 of the texts that LoanMoves takes: Malq. -/
import Derived.Test.YtmcmbicapdcfmaaGreatMakq
set_option linter.unusedVariables false
set_option linter.unusedSimpArgs false
set_option maxHeartbeats 16000000
namespace Go.Proofs.YtmcmbicapdcfmaaGreat
open Go.RowKit Go.Maps
theorem own_le {w:World} {base size n:Nat} {e:TypeId} {v:Value} {xs:List Value} (h:w.ownsRow base e size v n xs) {b:Nat} (hb:v.ownBlock=some b):base≤b:=by
 rcases h.2 with ⟨rfl,_⟩ | ⟨g,cap,cur,rfl,hg,_⟩
 ·simp [Value.ownBlock] at hb
 ·simp [Value.ownBlock] at hb
  omega
section
variable {w V V':World} {bm be b6 b7:Nat} {d:Deed} {L:List (Nm × Value)} {gd gi gs:Nm→Value} {Sd Si St:Nm→TL} {cs:Array Value}
end
end Go.Proofs.YtmcmbicapdcfmaaGreat
namespace Go.Proofs.YtmcmbicapdcfmaaGreat
open Go.RowKit Go.Shelf Go.Maps
attribute [local go_sem] Oper.semAt_some
theorem KeepQ.putObj {b:Nat} {P:Nat→Prop} (W:World) (l:Nat) (o:Obj) (hP:¬ P l) (hb:l<b):KeepQ b P W (W.putObj l o) :=
 ⟨by simp,fun k hk=>World.putObj_heap_other (fun e=>hP (e ▸ hk)),fun k h1 _=>World.putObj_heap_other (by omega)⟩
theorem KeepQ.up {b b':Nat} {P:Nat→Prop} {W W':World} (h:KeepQ b P W W') (hb:b≤b'):KeepQ b' P W W':=⟨h.size,h.blk,fun k h1 h2=>h.new k (by omega) h2⟩
attribute [local go_sem] Oper.semAt_some
def OwnW {β:Type} (B:Nat) (I:β→World→Prop):Prop :=
 ∀ s X Y row,I s X→X.grownBy Y row→(∀ r,row=some r→B≤r∧∃ o:Obj,X.heap[r]?=some o∧o.isCells=false∧o.isWalk=false)→I s Y
theorem OwnW.of {β:Type} {B:Nat} {I:β→World→Prop} (h:OwnFrom B I):OwnW B I:=fun s X Y row hs hg hr=>h s X Y row hs hg fun r e=>⟨(hr r e).1,by
 obtain ⟨o,h1,h2,_⟩:=(hr r e).2
 exact ⟨o,h1,h2⟩⟩
theorem OwnW.up {β:Type} {B B':Nat} {I:β→World→Prop} (h:OwnW B I) (hB:B≤B'):OwnW B' I:=fun s X Y row hs hg hr=>h s X Y row hs hg fun r e=>⟨Nat.le_trans hB (hr r e).1,(hr r e).2⟩
theorem OwnW.and {β:Type} {B:Nat} {I J:β→World→Prop} (h:OwnW B I) (g:OwnW B J):OwnW B (fun s W=>I s W∧J s W):=fun s X Y row hs hg hr=>⟨h s X Y row hs.1 hg hr,g s X Y row hs.2 hg hr⟩
end Go.Proofs.YtmcmbicapdcfmaaGreat
namespace Go.Proofs.YtmcmbicapdcfmaaGreat
open Go.RowKit
theorem mem_take_succ {l:List Int} {k:Nat} {x n:Int} (h:l[k]?=some x):n∈l.take (k+1)↔n∈l.take k∨n=x:=by
 rw [take_snoc_some h,List.mem_append,List.mem_singleton]
theorem r_Has2 (l:List Int) (v:Int) (A:Option Addr) (n c:Nat) (w:World) (hn:n≤9223372036854775807) (hd:Is w w.heap.size A n l) :
 Calls Tryz.prog 18 #[.slice A n c,.int .i64 v] w fun e w'=>e=.returned (.bool (decide (v∈l)))∧Below w.heap.size w w':=by
 have hlen:=hd.len
 have HD:=hd_ hd
 have HL:=hd_ hlen
 clear hd hlen
 go_enter Tryz.func18,Tryz.ntmps18
 go_wp2
 go_loopw [5] (fun i wr=>∃ k:Nat,k≤n∧i=.int .i64 k∧v ∉ l.take k∧Below w.heap.size w wr) (fun i _=>n - (intOf i).toNat)
 case atStart=>exact ⟨0,by omega,rfl,by simp,Below.refl _ _⟩
 case round =>
  obtain ⟨k,hk,rfl,hno,hB⟩:=hrel
  have HNo:=hd_ hno
  clear hno
  by_cases hlt:k<n
  ·obtain ⟨b,o,x,rfl,hb,hx,hc0⟩:=(Is.ext HD.out hB lr_).at_ hlt
   have HX:=hd_ hx
   clear hx
   by_cases he:x=v
   ·go_wp2
    go_ret
    exact ⟨ret_bool (by rw [he] at HX;simp [List.mem_of_getElem? HX.out]),hB⟩
   ·go_wp2
    go_roundw
    case rel=>exact ⟨k+1,by omega,by go_num,by rw [mem_take_succ HX.out];exact fun h=>h.elim HNo.out fun e=>he e.symm,hB⟩
    case measure=>exact ms_
  ·have hkn:Hid (k=n):=by show _=_;omega
   go_wp2
   go_ret
   refine ⟨ret_bool ?_,hB⟩
   have h:=HNo.out
   rw [List.take_of_length_le (by rw [HL.out,hkn.out];exact lr_)] at h
   simp [h]
end Go.Proofs.YtmcmbicapdcfmaaGreat
