/- Layer 2 of the texts that LoanBack takes: Banq. -/
import Derived.Test.YtmcmbicapdcfmaaGreatBamq
import Derived.Test.YtmcmbicapdcfmaaGreatBaiq
import Derived.Test.YtmcmbicapdcfmaaGreatBalq
set_option linter.unusedVariables false
set_option linter.unusedSimpArgs false
set_option maxHeartbeats 16000000
namespace Go.Proofs.YtmcmbicapdcfmaaGreat
open Go.RowKit
def ledB (l:Led):Bool:=valB Ppr.id Ppr.okB 12 l.pp && (valB Rcp.src Rcp.okB 60 l.rc && (valB Rtn.src Rtn.okB 60 l.rt && (valB Sgt.src Sgt.okB 60 l.sg && (decide (srcL l).Nodup && folsB l.pp (namL l)))))
theorem val_len {α:Type} {num:α→Int} {ok:α→Bool} {most:Nat} {l:List α} (h:valB num ok most l=true):l.length≤most:=by
 rw [valB,Bool.and_eq_true] at h
 simpa using h.1
theorem val_all {α:Type} {num:α→Int} {ok:α→Bool} {most:Nat} {l:List α} (h:valB num ok most l=true):∀ x∈l,ok x=true:=by
 rw [valB,Bool.and_eq_true] at h
 intro x hx
 obtain ⟨k,hk⟩:=List.getElem?_of_mem hx
 have h1:=List.all_eq_true.1 h.2 k (List.mem_range.2 (List.getElem?_eq_some_iff.1 hk).1)
 cases k with
 | zero=>simpa [valAt,hk] using h1
 | succ j =>
   cases hj:l[j]? with
   | none=>simp [valAt,hk,hj] at h1
   | some y=>simp [valAt,hk,hj] at h1;exact h1.1
theorem leaves_len {l:List Int} (h:leavesB l=true):l.length≤30:=by
 rw [leavesB,Bool.and_eq_true] at h
 exact val_len h.2
theorem rc_leaves {l:List Rcp} (h:valB Rcp.src Rcp.okB 60 l=true):∀ r∈l,r.lv.length≤30:=fun r hr=>by
 have h1:=val_all h r hr
 simp only [Rcp.okB,Bool.and_eq_true] at h1
 exact leaves_len h1.2.2.2.1
theorem nam_len {l:Led} (h:valB Rcp.src Rcp.okB 60 l.rc=true) (hs:valB Sgt.src Sgt.okB 60 l.sg=true):(namL l).length≤1000000:=by
 have h1:=fol_len (rc_leaves h) l.rc.length
 have h2:=val_len h
 have h3:=val_len hs
 rw [List.take_length] at h1
 simp only [namL,List.length_append,List.length_map]
 omega
set_option maxRecDepth 10000 in
theorem p_Check (l:Led) (x:Lsl) (w:World) (hp:x.pn≤9223372036854775807) (hr:x.rn≤9223372036854775807) (ht:x.tn≤9223372036854775807) (hs:x.sn≤9223372036854775807) (hd:LedIn w w.heap.size x l) :
 Calls Tryz.prog 12 #[.agg #[.slice x.pA x.pn x.pc,.slice x.rA x.rn x.rc,.slice x.tA x.tn x.tc,.slice x.sA x.sn x.sc]] w fun e w'=>e=.returned (.int .i64 (errI (ledB l) 24))∧Below w.heap.size w w':=by
 have hmf:∀ (fn:Fn) (first cap:Array Value) (w:World),(Instr.makeFunc fn first cap).run Tryz.prog w=.ok (.func fn first cap) w:=fun _ _ _ _=>rfl
 have HL1:=hd_ hd.r.len
 have HL2:=hd_ hd.t.len
 have HL3:=hd_ hd.s.len
 have HD:=hd_ hd
 obtain ⟨W1,hW1⟩:∃ W1,w.alloc (.cells #[.slice x.pA x.pn x.pc,.slice x.rA x.rn x.rc,.slice x.tA x.tn x.tc,.slice x.sA x.sn x.sc] 32)=W1:=⟨_,rfl⟩
 have hB0:Below w.heap.size w W1:=by rw [← hW1];exact (Below.refl _ _).alloc lr_ _
 have hz0:W1.heap.size=w.heap.size+1:=by rw [← hW1];simp
 have b0:W1.cell? ⟨w.heap.size,0,none⟩=some (.slice x.pA x.pn x.pc):=by rw [← hW1];simp
 have b1:W1.cell? ⟨w.heap.size,1,none⟩=some (.slice x.rA x.rn x.rc):=by rw [← hW1];simp
 have b2:W1.cell? ⟨w.heap.size,2,none⟩=some (.slice x.tA x.tn x.tc):=by rw [← hW1];simp
 have b3:W1.cell? ⟨w.heap.size,3,none⟩=some (.slice x.sA x.sn x.sc):=by rw [← hW1];simp
 have HBX:Hid (LedBox W1 w.heap.size x):=by show _∧_;exact ⟨b0,b1,b2,b3⟩
 have HD1:=hd_ (hd.now hB0)
 clear hd
 go_enter Tryz.func12,Tryz.ntmps12
 go_wp2_with (first
  | (go_at_call 44;(first | rw [hW1] | skip);refine (l_areValidP l.pp _ _ _ W1 hp HD1.out.p).mono ?_;rintro e w1 ⟨rfl,hb1⟩;have HB:=hb1;have hsz:=hb1.size;obtain ⟨hc1,hf1⟩:=bcell hb1)
  | (go_at_call 47;refine (l_areValidR l.rc _ _ _ _ hr (HD1.out.now HB).r).mono ?_;rintro e w2 ⟨rfl,hb2⟩;have HB:=bt_ HB hb2;obtain ⟨hc2,hf2⟩:=bcell HB)
  | (go_at_call 50;refine (l_areValidT l.rt _ _ _ _ ht (HD1.out.now HB).t).mono ?_;rintro e w3 ⟨rfl,hb3⟩;have HB:=bt_ HB hb3;obtain ⟨hc3,hf3⟩:=bcell HB)
  | (go_at_call 53;refine (l_areValidS l.sg _ _ _ _ hs (HD1.out.now HB).s).mono ?_;rintro e w4 ⟨rfl,hb4⟩;have HB:=bt_ HB hb4;obtain ⟨hc4,hf4⟩:=bcell HB)
  | (go_at_call 56;refine (p_areApart l x _ (by rw [← HL1.out];exact val_len (by assumption)) (by rw [← HL2.out];exact val_len (by assumption)) (by rw [← HL3.out];exact val_len (by assumption)) (HD1.out.now HB)).mono ?_;rintro e w5 ⟨rfl,hb5⟩;have HB:=bt_ HB hb5;obtain ⟨hc5,hf5⟩:=bcell HB)
  | (go_at_call 58;refine (p_named l x _ (by rw [← HL1.out];exact val_len (by assumption)) (by rw [← HL3.out];exact val_len (by assumption)) (rc_leaves (by assumption)) (HD1.out.now HB)).mono ?_;rintro e w6 ⟨v6,rfl,hb6,ho6⟩;have HB:=bt_ HB hb6;obtain ⟨hc6,hf6⟩:=bcell HB;obtain ⟨A6,c6,rfl,hcc6⟩:=own_slice ho6)
  | (go_at_call 57;refine (l_containsFol l.pp x (namL l) w.heap.size _ _ _ _ (nam_len (by assumption) (by assumption)) hp (HD1.out.now HB).p (HBX.out.ext HB) (fos_of_own ho6 rfl)).mono ?_;rintro e w7 ⟨rfl,hb7⟩;have HB:=bt_ HB hb7;obtain ⟨hc7,hf7⟩:=bcell HB)
  | (go_at_call 61;refine (p_verdict _ _ _).mono ?_;rintro e w1 ⟨rfl,rfl⟩))
 all_goals
  go_ret
  exact ⟨by simp_all [ledB],hB0.trans (HB.mono (by omega))⟩
end Go.Proofs.YtmcmbicapdcfmaaGreat
