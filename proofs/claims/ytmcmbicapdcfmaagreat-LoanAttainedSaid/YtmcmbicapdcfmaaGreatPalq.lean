/- Layer 2 of the texts that the statements over histories take: Palq. -/
import Derived.Test.YtmcmbicapdcfmaaGreatPaiq
import Derived.Test.YtmcmbicapdcfmaaGreatPakq
set_option linter.unusedVariables false
set_option linter.unusedSimpArgs false
set_option maxHeartbeats 16000000
namespace Go.Proofs.YtmcmbicapdcfmaaGreat
open Go.RowKit
def QF (w:World) (_ b o:Nat) (f:Int × Int):Prop:=w.cell? ⟨b,o,none⟩=some (.int .i64 f.1)∧w.cell? ⟨b,o+1,none⟩=some (.int .i64 f.2)
theorem abF:Abides QF:=⟨fun w w' B b o x h hb hk=>⟨(hk _ _ hb).trans h.1,(hk _ _ hb).trans h.2⟩,fun _ _ _ _ _ _ h _=>h⟩
abbrev Fos:=Sq QF 2
theorem folCells_get:∀ (fs:List (Int × Int)) (k:Nat) (f:Int × Int),fs[k]?=some f→(folCells fs)[k*2]?=some (.int .i64 f.1)∧(folCells fs)[k*2+1]?=some (.int .i64 f.2)
 | [],k,f,h=>by simp at h
 | g :: fs,0,f,h=>by
   simp at h
   subst h
   simp [folCells]
 | g :: fs,k+1,f,h=>by
   have h1:=folCells_get fs k f (by simpa using h)
   have e:folCells (g :: fs)=.int .i64 g.1 :: .int .i64 g.2 :: folCells fs:=rfl
   rw [e,show (k+1)*2=k*2+1+1 from by omega]
   simpa using h1
theorem fos_of_own {w:World} {base n c:Nat} {A:Option Addr} {fs:List (Int × Int)} (h:w.ownsRow base 48 2 (.slice A n c) n (folCells fs)) (hn:fs.length=n):Fos w w.heap.size A n fs:=by
 have hr:=Rd.of_own h
 refine ⟨hn,fun h0=>?_⟩
 obtain ⟨b,o,e,hb,hc⟩:=hr.2 h0
 refine ⟨b,o,e,hb,fun k f hf=>?_⟩
 obtain ⟨h1,h2⟩:=folCells_get fs k f hf
 exact ⟨hc _ _ h1,by have:=hc _ _ h2;rwa [← Nat.add_assoc] at this⟩
def LedBox (w:World) (bl:Nat) (x:Lsl):Prop:=w.cell? ⟨bl,0,none⟩=some (.slice x.pA x.pn x.pc)∧w.cell? ⟨bl,1,none⟩=some (.slice x.rA x.rn x.rc)∧w.cell? ⟨bl,2,none⟩=some (.slice x.tA x.tn x.tc)∧w.cell? ⟨bl,3,none⟩=some (.slice x.sA x.sn x.sc)
theorem LedBox.lt {w:World} {bl:Nat} {x:Lsl} (h:LedBox w bl x):bl<w.heap.size:=block_lt_of_cell h.1
theorem LedBox.ext {w w':World} {bl:Nat} {x:Lsl} (h:LedBox w bl x) (hb:Below w.heap.size w w'):LedBox w' bl x:=by
 have hl:=h.lt
 obtain ⟨h0,h1,h2,h3⟩:=h
 exact ⟨(hb.cell (p:=⟨bl,0,none⟩) hl).trans h0,(hb.cell (p:=⟨bl,1,none⟩) hl).trans h1,(hb.cell (p:=⟨bl,2,none⟩) hl).trans h2,(hb.cell (p:=⟨bl,3,none⟩) hl).trans h3⟩
theorem p_notHas (pp:List Ppr) (x:Lsl) (a b:Int) (v:Bool) (bl:Nat) (w:World) (hn:x.pn≤9223372036854775807) (hd:Pps w w.heap.size x.pA x.pn pp) (hbx:LedBox w bl x) (hv:folB pp a b=v) :
 Calls Tryz.prog 59 #[.agg #[.int .i64 a,.int .i64 b],.pointer (some ⟨bl,0,none⟩)] w fun e w'=>e=.returned (.bool (!v))∧Below w.heap.size w w':=by
 subst hv
 have HD:=hd_ hd
 have hbl:=hbx.lt
 obtain ⟨c0,c1,c2,c3⟩:=hbx
 clear hd
 go_enter Tryz.func59,Tryz.ntmps59
 go_wp2_with (go_at_call 60;refine (p_has pp x a b _ hn (HD.out.now abP (by exact bel_))).mono ?_;rintro e w1 ⟨rfl,hb1⟩)
 go_ret
 exact ⟨rfl,bt_ (W:=w.alloc (.cells #[.int .i64 a,.int .i64 b] 48)) (by exact bel_) hb1⟩
def folsB (pp:List Ppr) (fs:List (Int × Int)):Bool:=fs.all fun f=>folB pp f.1 f.2
theorem l_indexFol (pp:List Ppr) (x:Lsl) (fs:List (Int × Int)) (bl:Nat) (A:Option Addr) (n c:Nat) (w:World) (hn:n≤1000000) (hp:x.pn≤9223372036854775807) (hd:Pps w w.heap.size x.pA x.pn pp) (hbx:LedBox w bl x) (h:Fos w w.heap.size A n fs) :
 Calls Tryz.prog 116 #[.slice A n c,.func (.func 59) #[] #[.pointer (some ⟨bl,0,none⟩)]] w fun e w'=>(∃ r:Int,e=.returned (.int .i64 r)∧decide (0≤r)=!folsB pp fs)∧Below w.heap.size w w':=by
 have HI:=hd_ h
 have HL:=hd_ h.len
 have HD:=hd_ hd
 have HX:=hd_ hbx
 clear h hd hbx
 go_enter Tryz.func116,Tryz.ntmps116
 go_wp2
 go_loopw [8] (fun i wr=>∃ k:Nat,k≤n∧i=.int .i64 k∧folsB pp (fs.take k)=true∧Below w.heap.size w wr) (fun i _=>n - (intOf i).toNat)
 case atStart=>exact ⟨0,by omega,rfl,rfl,Below.refl _ _⟩
 case round =>
  obtain ⟨k,hk,rfl,ho,hB⟩:=hrel
  have HO:=hd_ ho
  clear ho
  by_cases hlt:k<n
  ·obtain ⟨b,o,f,rfl,hb,hf,h0,h1⟩:=(Sq.ext HI.out abF hB lr_).at_ hlt
   have HF:=hd_ hf
   clear hf
   have hs0:=hB.size
   cases hv:folB pp f.1 f.2 with
   | true =>
     have hN:=hd_ (p_notHas pp x f.1 f.2 true bl wr hp (HD.out.now abP hB) (HX.out.ext hB) hv)
     have H1:Hid (folsB pp (fs.take (k+1))=true):=by
      show _=_
      have:=HO.out
      rw [folsB,take_snoc_some HF.out,List.all_append]
      rw [folsB] at this
      simp [this,hv]
     clear hv
     go_wp2_with (go_at_call 59;refine hN.out.mono ?_;rintro e w1 ⟨rfl,hb1⟩)
     go_roundw
     case rel=>exact ⟨k+1,by omega,by go_num,H1.out,bt_ hB hb1⟩
     case measure=>exact ms_
   | false =>
     have hN:=hd_ (p_notHas pp x f.1 f.2 false bl wr hp (HD.out.now abP hB) (HX.out.ext hB) hv)
     have H1:Hid (folsB pp fs=false):=by
      show _=_
      rw [folsB,List.all_eq_false]
      exact ⟨f,List.mem_of_getElem? HF.out,by simp [hv]⟩
     clear hv
     go_wp2_with (go_at_call 59;refine hN.out.mono ?_;rintro e w1 ⟨rfl,hb1⟩)
     go_ret
     exact ⟨⟨k,rfl,by rw [H1.out];simp⟩,bt_ hB hb1⟩
  ·have H1:Hid (folsB pp fs=true):=by
    show _=_
    have:=HO.out
    rwa [List.take_of_length_le (by rw [HL.out];omega)] at this
   go_wp2
   go_ret
   exact ⟨⟨-1,rfl,by rw [H1.out];rfl⟩,hB⟩
theorem l_containsFol (pp:List Ppr) (x:Lsl) (fs:List (Int × Int)) (bl:Nat) (A:Option Addr) (n c:Nat) (w:World) (hn:n≤1000000) (hp:x.pn≤9223372036854775807) (hd:Pps w w.heap.size x.pA x.pn pp) (hbx:LedBox w bl x) (h:Fos w w.heap.size A n fs) :
 Calls Tryz.prog 57 #[.slice A n c,.func (.func 59) #[] #[.pointer (some ⟨bl,0,none⟩)]] w fun e w'=>e=.returned (.bool (!folsB pp fs))∧Below w.heap.size w w':=by
 have HC:=hd_ (l_indexFol pp x fs bl A n c w hn hp hd hbx h)
 clear hd hbx h
 go_enter Tryz.func57,Tryz.ntmps57
 go_wp2_with (go_at_call 116;refine HC.out.mono ?_;rintro e w1 ⟨⟨r,rfl,hr⟩,hb1⟩)
 go_ret
 exact ⟨ret_bool (by rw [← hr]),hb1⟩
def ledB (l:Led):Bool:=valB Ppr.id Ppr.okB 12 l.pp && (valB Rcp.src Rcp.okB 60 l.rc && (valB Rtn.src Rtn.okB 60 l.rt && (valB Sgt.src Sgt.okB 60 l.sg && (decide (srcL l).Nodup && folsB l.pp (namL l)))))
theorem val_len {α:Type} {num:α→Int} {ok:α→Bool} {most:Nat} {l:List α} (h:valB num ok most l=true):l.length≤most:=by
 rw [valB,Bool.and_eq_true] at h
 simpa using h.1
theorem val_all {α:Type} {num:α→Int} {ok:α→Bool} {most:Nat} {l:List α} (h:valB num ok most l=true):∀ x∈l,ok x=true:=by
 rw [valB,Bool.and_eq_true] at h
 intro x hx
 obtain ⟨k,hk⟩:=List.getElem?_of_mem hx
 have h1:=List.all_eq_true.1 h.2 k (List.mem_range.2 (List.getElem?_eq_some_iff.1 hk).1)
 cases k with
 | zero=>simpa [valAt,hk] using h1
 | succ j =>
   cases hj:l[j]? with
   | none=>simp [valAt,hk,hj] at h1
   | some y=>simp [valAt,hk,hj] at h1;exact h1.1
theorem leaves_len {l:List Int} (h:leavesB l=true):l.length≤30:=by
 rw [leavesB,Bool.and_eq_true] at h
 exact val_len h.2
theorem rc_leaves {l:List Rcp} (h:valB Rcp.src Rcp.okB 60 l=true):∀ r∈l,r.lv.length≤30:=fun r hr=>by
 have h1:=val_all h r hr
 simp only [Rcp.okB,Bool.and_eq_true] at h1
 exact leaves_len h1.2.2.2.1
theorem nam_len {l:Led} (h:valB Rcp.src Rcp.okB 60 l.rc=true) (hs:valB Sgt.src Sgt.okB 60 l.sg=true):(namL l).length≤1000000:=by
 have h1:=fol_len (rc_leaves h) l.rc.length
 have h2:=val_len h
 have h3:=val_len hs
 rw [List.take_length] at h1
 simp only [namL,List.length_append,List.length_map]
 omega
set_option maxRecDepth 10000 in
theorem p_Check (l:Led) (x:Lsl) (w:World) (hp:x.pn≤9223372036854775807) (hr:x.rn≤9223372036854775807) (ht:x.tn≤9223372036854775807) (hs:x.sn≤9223372036854775807) (hd:LedIn w w.heap.size x l) :
 Calls Tryz.prog 12 #[.agg #[.slice x.pA x.pn x.pc,.slice x.rA x.rn x.rc,.slice x.tA x.tn x.tc,.slice x.sA x.sn x.sc]] w fun e w'=>e=.returned (.int .i64 (errI (ledB l) 24))∧Below w.heap.size w w':=by
 have hmf:∀ (fn:Fn) (first cap:Array Value) (w:World),(Instr.makeFunc fn first cap).run Tryz.prog w=.ok (.func fn first cap) w:=fun _ _ _ _=>rfl
 have HL1:=hd_ hd.r.len
 have HL2:=hd_ hd.t.len
 have HL3:=hd_ hd.s.len
 have HD:=hd_ hd
 obtain ⟨W1,hW1⟩:∃ W1,w.alloc (.cells #[.slice x.pA x.pn x.pc,.slice x.rA x.rn x.rc,.slice x.tA x.tn x.tc,.slice x.sA x.sn x.sc] 32)=W1:=⟨_,rfl⟩
 have hB0:Below w.heap.size w W1:=by rw [← hW1];exact (Below.refl _ _).alloc lr_ _
 have hz0:W1.heap.size=w.heap.size+1:=by rw [← hW1];simp
 have b0:W1.cell? ⟨w.heap.size,0,none⟩=some (.slice x.pA x.pn x.pc):=by rw [← hW1];simp
 have b1:W1.cell? ⟨w.heap.size,1,none⟩=some (.slice x.rA x.rn x.rc):=by rw [← hW1];simp
 have b2:W1.cell? ⟨w.heap.size,2,none⟩=some (.slice x.tA x.tn x.tc):=by rw [← hW1];simp
 have b3:W1.cell? ⟨w.heap.size,3,none⟩=some (.slice x.sA x.sn x.sc):=by rw [← hW1];simp
 have HBX:Hid (LedBox W1 w.heap.size x):=by show _∧_;exact ⟨b0,b1,b2,b3⟩
 have HD1:=hd_ (hd.now hB0)
 clear hd
 go_enter Tryz.func12,Tryz.ntmps12
 go_wp2_with (first
  | (go_at_call 44;(first | rw [hW1] | skip);refine (l_areValidP l.pp _ _ _ W1 hp HD1.out.p).mono ?_;rintro e w1 ⟨rfl,hb1⟩;have HB:=hb1;have hsz:=hb1.size;obtain ⟨hc1,hf1⟩:=bcell hb1)
  | (go_at_call 47;refine (l_areValidR l.rc _ _ _ _ hr (HD1.out.now HB).r).mono ?_;rintro e w2 ⟨rfl,hb2⟩;have HB:=bt_ HB hb2;obtain ⟨hc2,hf2⟩:=bcell HB)
  | (go_at_call 50;refine (l_areValidT l.rt _ _ _ _ ht (HD1.out.now HB).t).mono ?_;rintro e w3 ⟨rfl,hb3⟩;have HB:=bt_ HB hb3;obtain ⟨hc3,hf3⟩:=bcell HB)
  | (go_at_call 53;refine (l_areValidS l.sg _ _ _ _ hs (HD1.out.now HB).s).mono ?_;rintro e w4 ⟨rfl,hb4⟩;have HB:=bt_ HB hb4;obtain ⟨hc4,hf4⟩:=bcell HB)
  | (go_at_call 56;refine (p_areApart l x _ (by rw [← HL1.out];exact val_len (by assumption)) (by rw [← HL2.out];exact val_len (by assumption)) (by rw [← HL3.out];exact val_len (by assumption)) (HD1.out.now HB)).mono ?_;rintro e w5 ⟨rfl,hb5⟩;have HB:=bt_ HB hb5;obtain ⟨hc5,hf5⟩:=bcell HB)
  | (go_at_call 58;refine (p_named l x _ (by rw [← HL1.out];exact val_len (by assumption)) (by rw [← HL3.out];exact val_len (by assumption)) (rc_leaves (by assumption)) (HD1.out.now HB)).mono ?_;rintro e w6 ⟨v6,rfl,hb6,ho6⟩;have HB:=bt_ HB hb6;obtain ⟨hc6,hf6⟩:=bcell HB;obtain ⟨A6,c6,rfl,hcc6⟩:=own_slice ho6)
  | (go_at_call 57;refine (l_containsFol l.pp x (namL l) w.heap.size _ _ _ _ (nam_len (by assumption) (by assumption)) hp (HD1.out.now HB).p (HBX.out.ext HB) (fos_of_own ho6 rfl)).mono ?_;rintro e w7 ⟨rfl,hb7⟩;have HB:=bt_ HB hb7;obtain ⟨hc7,hf7⟩:=bcell HB)
  | (go_at_call 61;refine (p_verdict _ _ _).mono ?_;rintro e w1 ⟨rfl,rfl⟩))
 all_goals
  go_ret
  exact ⟨by simp_all [ledB],hB0.trans (HB.mono (by omega))⟩
end Go.Proofs.YtmcmbicapdcfmaaGreat
