/- Layer 2 of the texts that LoanPlaces takes: Pafq. -/
import Derived.Test.YtoiompoapikkbaaGreatPabq
import Derived.Test.YtoiompoapikkbaaGreatPacq
set_option linter.unusedVariables false
set_option linter.unusedSimpArgs false
set_option maxHeartbeats 16000000
namespace Go.Proofs.YtoiompoapikkbaaGreat
open Go.RowKit Go.Maps
abbrev Nm:=Int × Int
abbrev TL:=List (Deed × Nat)
theorem own_block {w:World} {base size n:Nat} {e:TypeId} {v:Value} {xs:List Value} (h:w.ownsRow base e size v n xs) {b:Nat} (hb:v.ownBlock=some b):∃ cur,w.heap[b]?=some (.cells cur e (0,0)):=by
 rcases h.2 with ⟨rfl,_⟩ | ⟨g,cap,cur,rfl,_,hh,_⟩
 ·simp [Value.ownBlock] at hb
 ·simp [Value.ownBlock] at hb
  subst hb
  exact ⟨cur,hh⟩
theorem own_keep {w w':World} {base size n:Nat} {e:TypeId} {v:Value} {xs:List Value} (h:w.ownsRow base e size v n xs) (hk:∀ b,v.ownBlock=some b→w'.heap[b]?=w.heap[b]?):w'.ownsRow base e size v n xs:=by
 refine ⟨h.1,?_⟩
 rcases h.2 with h2 | ⟨g,cap,cur,rfl,hb,hh,r⟩
 ·exact .inl h2
 ·exact .inr ⟨g,cap,cur,rfl,hb,(hk g rfl).trans hh,r⟩
theorem block_lt {w:World} {b:Nat} {o:Obj} (h:w.heap[b]?=some o):b<w.heap.size:=by
 rcases Nat.lt_or_ge b w.heap.size with hlt | hge
 ·exact hlt
 ·rw [Array.getElem?_eq_none hge] at h;cases h
section
variable {w w':World} {base size:Nat} {e:TypeId} {g:Nm→Value} {c:TL→List Value} {S:Nm→TL}
end
end Go.Proofs.YtoiompoapikkbaaGreat
namespace Go.Proofs.YtoiompoapikkbaaGreat
open Go.RowKit Go.Shelf Go.Maps
attribute [local go_sem] Oper.semAt_some
def BoxA (W:World) (B:Nat) (t:TypeId) (cs:Array Value):Prop:=W.heap[B]?=some (.cells cs t (0,0))
section
variable {W W':World} {B:Nat} {t:TypeId} {cs:Array Value}
theorem BoxA.lt (h:BoxA W B t cs):B<W.heap.size:=(Array.getElem?_eq_some_iff.1 h).1
theorem BoxA.cell (h:BoxA W B t cs) (o:Nat):W.cell? ⟨B,o,none⟩=cs[o]?:=by simp [World.cell?,show W.heap[B]?=_ from h]
theorem BoxA.new (W:World) (t:TypeId) (cs:Array Value):BoxA (W.alloc (.cells cs t)) W.heap.size t cs:=World.alloc_heap_new W _
theorem BoxA.kept {row:Option Nat} (h:BoxA W B t cs) (hg:W.grownBy W' row) (hne:some B≠row):BoxA W' B t cs:=(hg.block B h.lt hne).trans h
theorem BoxA.alloc (h:BoxA W B t cs) (o:Obj):BoxA (W.alloc o) B t cs:=h.kept (World.grownBy_alloc W o none) (by simp)
theorem BoxA.ext (h:BoxA W B t cs) (hb:Below W.heap.size W W'):BoxA W' B t cs:=(hb.block B h.lt).trans h
end
theorem boxa_own {β:Type} (B:Nat) (t:TypeId) (f:β→Array Value):Own (fun s W=>BoxA W B t (f s)):=fun s X Y row hs hg hrow =>
 hs.kept hg (fun e'=>by obtain ⟨o,ho,hc⟩:=hrow B e'.symm;rw [show X.heap[B]?=_ from hs] at ho;cases ho;cases hc)
theorem alloc_get (w:World) (o:Obj) (k:Nat):(w.alloc o).heap[k]?=if k=w.heap.size then some o else w.heap[k]?:=by
 show (w.heap.push o)[k]?=_
 rw [Array.getElem?_push]
theorem drew_heap (w : World) : w.drew.heap = w.heap := rfl
theorem boxed_iff {W : World} {B : Nat} {t : TypeId} {v : Value} : Boxed W B t v ↔ W.heap[B]? = some (.cells #[v] t (0, 0)) := Iff.rfl
theorem boxa_iff {W:World} {B:Nat} {t:TypeId} {cs:Array Value}:BoxA W B t cs↔W.heap[B]?=some (.cells cs t (0,0)):=Iff.rfl
end Go.Proofs.YtoiompoapikkbaaGreat
namespace Go.Proofs.YtoiompoapikkbaaGreat
open Go.RowKit
theorem r_In_v (n lo hi:Int) (v:Bool) (w:World) (h:withinB n lo hi=v) :
 Calls Tryz.prog 73 #[.int .i64 n,.int .i64 lo,.int .i64 hi] w fun e w'=>e=.returned (.bool v)∧w=w':=h ▸ r_In2 n lo hi w
theorem r_areLeaves2 (l:List Int) (A:Option Addr) (n c:Nat) (w:World) (hn:n≤9223372036854775807) (hd:Is w w.heap.size A n l) :
 Calls Tryz.prog 80 #[.slice A n c] w fun e w'=>e=.returned (.bool (leavesB l))∧Below w.heap.size w w':=by
 have hlen:=hd.len
 have HD:=hd_ hd
 have HL:=hd_ hlen
 clear hd hlen
 go_enter Tryz.func80,Tryz.ntmps80
 go_wp2
 go_loopw [3] (fun i wr=>∃ k:Nat,k≤n∧i=.int .i64 k∧(List.range k).all (valAt id leafB l)=true∧Below w.heap.size w wr) (fun i _=>n - (intOf i).toNat)
 case atStart=>exact ⟨0,by omega,rfl,rfl,Below.refl _ _⟩
 case round =>
  obtain ⟨k,hk,rfl,hall,hB⟩:=hrel
  have HA:=hd_ hall
  clear hall
  by_cases hlt:k<n
  ·obtain ⟨b,o,x,rfl,hb,hx,hc0⟩:=(Is.ext HD.out hB lr_).at_ hlt
   have HX:=hd_ hx
   clear hx
   have hs0:w.heap.size≤wr.heap.size:=hB.size
   have hbr:b<wr.heap.size:=by omega
   cases hin:withinB x 1 30 with
   | false =>
     have hf:Hid (valAt id leafB l k=false):=by
      show _=_
      cases k with
      | zero=>simp [valAt,HX.out,leafB,hin]
      | succ j=>cases hj:l[j]? <;> simp [valAt,HX.out,leafB,hin,hj]
     have HI:=hd_ hin
     clear hin
     go_wp2_with fail
     (refine rg_ ?_;(repeat (go_big_quiet_step ((first | (go_at_call 73;exact Calls.grow_same (r_In_v _ _ _ _ _ HI.out))))));refine qn_ fun w1 hb1 hc1 hf1=>?_)
     go_wp2_with fail
     go_ret
     exact ⟨ret_bool (by rw [leavesB,valB,val_false (by rw [HL.out];exact hlt) hf.out];simp),bt_ hB hb1⟩
   | true =>
     have HI:=hd_ hin
     clear hin
     by_cases hk0:k=0
     ·have hf:Hid (valAt id leafB l k=true):=by
       show _=_
       have h1:=HX.out
       rw [hk0] at h1 ⊢
       simp [valAt,h1,leafB,HI.out]
      have hk2:decide (0<k)=false:=by simp;omega
      clear hk0
      go_wp2_with fail
      (refine rg_ ?_;(repeat (go_big_quiet_step ((first | (go_at_call 73;exact Calls.grow_same (r_In_v _ _ _ _ _ HI.out))))));refine qn_ fun w1 hb1 hc1 hf1=>?_)
      go_wp2_with fail
      go_roundw
      case rel=>exact ⟨k+1,by omega,by go_num,val_succ HA.out hf.out,bt_ hB hb1⟩
      case measure=>exact ms_
     ·obtain ⟨j,rfl⟩:∃ j,k=j+1:=⟨k - 1,by omega⟩
      obtain ⟨b',o',y,e',_,hy,hc1⟩:=(Is.ext HD.out hB lr_).at_ (k:=j) (by omega)
      obtain ⟨rfl,rfl⟩:b=b'∧o=o':=by simpa using e'
      have HY:=hd_ hy
      clear hy e' hk0
      by_cases hxy:y<x
      ·have hf:Hid (valAt id leafB l (j+1)=true):=by show _=_;simp [valAt,HX.out,HY.out,leafB,HI.out,hxy]
       have hxd:decide (x≤y)=false:=by simp;omega
       clear hxy
       go_wp2_with fail
       (refine rg_ ?_;(repeat (go_big_quiet_step ((first | (go_at_call 73;exact Calls.grow_same (r_In_v _ _ _ _ _ HI.out))))));refine qn_ fun w1 hb1 hc1 hf1=>?_)
       go_wp2_with fail
       go_roundw
       case rel=>exact ⟨j+1+1,by omega,by go_num,val_succ HA.out hf.out,bt_ hB hb1⟩
       case measure=>exact ms_
      ·have hf:Hid (valAt id leafB l (j+1)=false):=by show _=_;simp [valAt,HX.out,HY.out,leafB,HI.out];omega
       have hxd:decide (x≤y)=true:=by simp;omega
       clear hxy
       go_wp2_with fail
       (refine rg_ ?_;(repeat (go_big_quiet_step ((first | (go_at_call 73;exact Calls.grow_same (r_In_v _ _ _ _ _ HI.out))))));refine qn_ fun w1 hb1 hc1 hf1=>?_)
       go_wp2_with fail
       go_ret
       exact ⟨ret_bool (by rw [leavesB,valB,val_false (by rw [HL.out];exact hlt) hf.out];simp),bt_ hB hb1⟩
  ·have hkn:k=n:=by omega
   have HKn:=hd_ hkn
   clear hkn
   go_wp2_with (go_at_call 73;refine (r_In2 _ _ _ _).mono ?_;rintro e w1 ⟨rfl,rfl⟩)
   go_ret
   have h1:l.length=k:=by rw [HL.out,HKn.out]
   exact ⟨ret_bool (by rw [leavesB,valB,h1,HA.out,withinB,Bool.eq_iff_iff];simp;omega),hB⟩
end Go.Proofs.YtoiompoapikkbaaGreat
