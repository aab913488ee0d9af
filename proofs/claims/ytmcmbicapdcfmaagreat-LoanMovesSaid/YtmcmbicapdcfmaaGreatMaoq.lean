/- Layer 2 of the texts that LoanMoves takes: Maoq. -/
import Derived.Test.YtmcmbicapdcfmaaGreatManq
import Derived.Test.YtmcmbicapdcfmaaGreatMagq
import Derived.Test.YtmcmbicapdcfmaaGreatMafq
import Derived.Test.YtmcmbicapdcfmaaGreatMakq
set_option linter.unusedVariables false
set_option linter.unusedSimpArgs false
set_option maxHeartbeats 16000000
namespace Go.Proofs.YtmcmbicapdcfmaaGreat
open Go.RowKit
def ledB (l:Led):Bool:=valB Ppr.id Ppr.okB 12 l.pp && (valB Rcp.src Rcp.okB 60 l.rc && (valB Rtn.src Rtn.okB 60 l.rt && (valB Sgt.src Sgt.okB 60 l.sg && (decide (srcL l).Nodup && folsB l.pp (namL l)))))
theorem val_len {α:Type} {num:α→Int} {ok:α→Bool} {most:Nat} {l:List α} (h:valB num ok most l=true):l.length≤most:=by
 rw [valB,Bool.and_eq_true] at h
 simpa using h.1
theorem val_all {α:Type} {num:α→Int} {ok:α→Bool} {most:Nat} {l:List α} (h:valB num ok most l=true):∀ x∈l,ok x=true:=by
 rw [valB,Bool.and_eq_true] at h
 intro x hx
 obtain ⟨k,hk⟩:=List.getElem?_of_mem hx
 have h1:=List.all_eq_true.1 h.2 k (List.mem_range.2 (List.getElem?_eq_some_iff.1 hk).1)
 cases k with
 | zero=>simpa [valAt,hk] using h1
 | succ j =>
   cases hj:l[j]? with
   | none=>simp [valAt,hk,hj] at h1
   | some y=>simp [valAt,hk,hj] at h1;exact h1.1
theorem leaves_len {l:List Int} (h:leavesB l=true):l.length≤30:=by
 rw [leavesB,Bool.and_eq_true] at h
 exact val_len h.2
theorem rc_leaves {l:List Rcp} (h:valB Rcp.src Rcp.okB 60 l=true):∀ r∈l,r.lv.length≤30:=fun r hr=>by
 have h1:=val_all h r hr
 simp only [Rcp.okB,Bool.and_eq_true] at h1
 exact leaves_len h1.2.2.2.1
theorem nam_len {l:Led} (h:valB Rcp.src Rcp.okB 60 l.rc=true) (hs:valB Sgt.src Sgt.okB 60 l.sg=true):(namL l).length≤1000000:=by
 have h1:=fol_len (rc_leaves h) l.rc.length
 have h2:=val_len h
 have h3:=val_len hs
 rw [List.take_length] at h1
 simp only [namL,List.length_append,List.length_map]
 omega
set_option maxRecDepth 10000 in
theorem p_Check (l:Led) (x:Lsl) (w:World) (hp:x.pn≤9223372036854775807) (hr:x.rn≤9223372036854775807) (ht:x.tn≤9223372036854775807) (hs:x.sn≤9223372036854775807) (hd:LedIn w w.heap.size x l) :
 Calls Tryz.prog 12 #[.agg #[.slice x.pA x.pn x.pc,.slice x.rA x.rn x.rc,.slice x.tA x.tn x.tc,.slice x.sA x.sn x.sc]] w fun e w'=>e=.returned (.int .i64 (errI (ledB l) 24))∧Below w.heap.size w w':=by
 have hmf:∀ (fn:Fn) (first cap:Array Value) (w:World),(Instr.makeFunc fn first cap).run Tryz.prog w=.ok (.func fn first cap) w:=fun _ _ _ _=>rfl
 have HL1:=hd_ hd.r.len
 have HL2:=hd_ hd.t.len
 have HL3:=hd_ hd.s.len
 have HD:=hd_ hd
 obtain ⟨W1,hW1⟩:∃ W1,w.alloc (.cells #[.slice x.pA x.pn x.pc,.slice x.rA x.rn x.rc,.slice x.tA x.tn x.tc,.slice x.sA x.sn x.sc] 32)=W1:=⟨_,rfl⟩
 have hB0:Below w.heap.size w W1:=by rw [← hW1];exact (Below.refl _ _).alloc lr_ _
 have hz0:W1.heap.size=w.heap.size+1:=by rw [← hW1];simp
 have b0:W1.cell? ⟨w.heap.size,0,none⟩=some (.slice x.pA x.pn x.pc):=by rw [← hW1];simp
 have b1:W1.cell? ⟨w.heap.size,1,none⟩=some (.slice x.rA x.rn x.rc):=by rw [← hW1];simp
 have b2:W1.cell? ⟨w.heap.size,2,none⟩=some (.slice x.tA x.tn x.tc):=by rw [← hW1];simp
 have b3:W1.cell? ⟨w.heap.size,3,none⟩=some (.slice x.sA x.sn x.sc):=by rw [← hW1];simp
 have HBX:Hid (LedBox W1 w.heap.size x):=by show _∧_;exact ⟨b0,b1,b2,b3⟩
 have HD1:=hd_ (hd.now hB0)
 clear hd
 go_enter Tryz.func12,Tryz.ntmps12
 go_wp2_with (first
  | (go_at_call 44;(first | rw [hW1] | skip);refine (l_areValidP l.pp _ _ _ W1 hp HD1.out.p).mono ?_;rintro e w1 ⟨rfl,hb1⟩;have HB:=hb1;have hsz:=hb1.size;obtain ⟨hc1,hf1⟩:=bcell hb1)
  | (go_at_call 47;refine (l_areValidR l.rc _ _ _ _ hr (HD1.out.now HB).r).mono ?_;rintro e w2 ⟨rfl,hb2⟩;have HB:=bt_ HB hb2;obtain ⟨hc2,hf2⟩:=bcell HB)
  | (go_at_call 50;refine (l_areValidT l.rt _ _ _ _ ht (HD1.out.now HB).t).mono ?_;rintro e w3 ⟨rfl,hb3⟩;have HB:=bt_ HB hb3;obtain ⟨hc3,hf3⟩:=bcell HB)
  | (go_at_call 53;refine (l_areValidS l.sg _ _ _ _ hs (HD1.out.now HB).s).mono ?_;rintro e w4 ⟨rfl,hb4⟩;have HB:=bt_ HB hb4;obtain ⟨hc4,hf4⟩:=bcell HB)
  | (go_at_call 56;refine (p_areApart l x _ (by rw [← HL1.out];exact val_len (by assumption)) (by rw [← HL2.out];exact val_len (by assumption)) (by rw [← HL3.out];exact val_len (by assumption)) (HD1.out.now HB)).mono ?_;rintro e w5 ⟨rfl,hb5⟩;have HB:=bt_ HB hb5;obtain ⟨hc5,hf5⟩:=bcell HB)
  | (go_at_call 58;refine (p_named l x _ (by rw [← HL1.out];exact val_len (by assumption)) (by rw [← HL3.out];exact val_len (by assumption)) (rc_leaves (by assumption)) (HD1.out.now HB)).mono ?_;rintro e w6 ⟨v6,rfl,hb6,ho6⟩;have HB:=bt_ HB hb6;obtain ⟨hc6,hf6⟩:=bcell HB;obtain ⟨A6,c6,rfl,hcc6⟩:=own_slice ho6)
  | (go_at_call 57;refine (l_containsFol l.pp x (namL l) w.heap.size _ _ _ _ (nam_len (by assumption) (by assumption)) hp (HD1.out.now HB).p (HBX.out.ext HB) (fos_of_own ho6 rfl)).mono ?_;rintro e w7 ⟨rfl,hb7⟩;have HB:=bt_ HB hb7;obtain ⟨hc7,hf7⟩:=bcell HB)
  | (go_at_call 61;refine (p_verdict _ _ _).mono ?_;rintro e w1 ⟨rfl,rfl⟩))
 all_goals
  go_ret
  exact ⟨by simp_all [ledB],hB0.trans (HB.mono (by omega))⟩
end Go.Proofs.YtmcmbicapdcfmaaGreat
namespace Go.Proofs.YtmcmbicapdcfmaaGreat
open Go.RowKit Go.Maps
theorem keyed_slip:Keyed Tryz.prog 152 :=
 Keyed.of_law (deep_law_laid (P:=Tryz.prog) (by kernel_rfl) (m:=2) (by decide) (of_decide_eq_true (by kernel_rfl)) (by kernel_rfl) (by kernel_rfl))
theorem keyType_slip:Tryz.prog.keyType 152=true:=by kernel_rfl
theorem cells_slip:Tryz.prog.cellsOf 152=2:=by kernel_rfl
theorem keyOf_slip (a b:Int) (h:wf2 a b):∃ l,keyOf Tryz.prog 152 (nk a b)=some l:=by
 have hk:=keyType_slip
 obtain ⟨m,hm⟩:=types_pos
 simp only [keyOf,Tryz.underlying152,hk,Value.formed,Value.cells,hm,cells_slip]
 simp only [Program.keyLits,Tryz.underlying152,cells_slip,cells_int,Tryz.underlying3]
 simp [h.1,h.2,cells_int,Tryz.underlying3]
abbrev MapS (w:World) (b:Nat) (L:List ((Int × Int) × Value)):Prop:=MapG (fun k:Int × Int=>nk k.1 k.2) (fun k=>wf2 k.1 k.2) w b L
theorem key_slips:KeyG (fun k:Int × Int=>nk k.1 k.2) (fun k=>wf2 k.1 k.2) 152 :=
 ⟨keyed_slip,fun a h=>keyOf_slip _ _ h,fun a b h=>nk_inj h⟩
structure Acc where
 x:Lsl
 kn:Int
 (RA:Option Addr) (Rn Rc:Nat)
 (SA:Option Addr) (Sn Sc:Nat)
 bm:Nat
 (TA:Option Addr) (Tn Tc:Nat)
 (PA:Option Addr) (Pn Pc:Nat)
structure Ast where
 l:Led
 R:List Rcp
 S:List Sgt
 M:List ((Int × Int) × Value)
 T:List Bool
 P:List (Int × Int)
def QB (w:World) (_ b o:Nat) (v:Bool):Prop:=w.cell? ⟨b,o,none⟩=some (.bool v)
theorem abB:Abides QB:=⟨fun w w' B b o x h hb hk=>(hk _ _ hb).trans h,fun _ _ _ _ _ _ h _=>h⟩
structure AccIn (w:World) (B:Nat) (a:Acc) (s:Ast):Prop where
 led:LedIn w B a.x s.l
 rr:Rcs w B a.RA a.Rn s.R
 ss:Sgs w B a.SA a.Sn s.S
 mm:MapS w a.bm s.M
 mB:a.bm<B
 tt:Sq QB 1 w B a.TA a.Tn s.T
 pp:Sq QF 2 w B a.PA a.Pn s.P
theorem AccIn.now {w w':World} {a:Acc} {s:Ast} (h:AccIn w w.heap.size a s) (hb:Below w.heap.size w w'):AccIn w' w'.heap.size a s :=
 ⟨h.led.now hb,h.rr.now abR hb,h.ss.now abS hb,h.mm.ext hb,Nat.lt_of_lt_of_le h.mB hb.size,h.tt.now abB hb,h.pp.now abF hb⟩
theorem p_counts2 (a b k:Int) (v:Bool) (w:World) (h:countsB a b k=v):Calls Tryz.prog 119 #[.int .i64 a,.int .i64 b,.int .i64 k] w fun e w'=>e=.returned (.bool v)∧w=w':=h ▸ p_counts a b k w
theorem p_upTo (b o:Nat) (lo hi d:Int) (w:World) (hf:∀ j,w.frozen? ⟨b,j,none⟩=false) (h0:w.cell? ⟨b,o,none⟩=some (.int .i64 lo)) (h1:w.cell? ⟨b,o+1,none⟩=some (.int .i64 hi)) :
 Calls Tryz.prog 154 #[.pointer (some ⟨b,o,none⟩),.int .i64 d] w fun e w'=>(∃ v,e=.returned v)∧w'=w.setCell ⟨b,o+1,none⟩ (.int .i64 (min hi d)):=by
 have f1:=hf (o+1)
 go_enter Tryz.func154,Tryz.ntmps154
 go_wp2
 go_end0
 exact ⟨⟨_,rfl⟩,rfl⟩
theorem p_behind (b o:Nat) (lo d:Int) (w:World) (hd:0≤d) (hd2:d≤1000000) (hf:∀ j,w.frozen? ⟨b,j,none⟩=false) (h0:w.cell? ⟨b,o,none⟩=some (.int .i64 lo)) :
 Calls Tryz.prog 152 #[.pointer (some ⟨b,o,none⟩),.int .i64 d] w fun e w'=>(∃ v,e=.returned v)∧w'=w.setCell ⟨b,o,none⟩ (.int .i64 (max lo (d+1))):=by
 have f1:=hf o
 have hw:IntKind.i64.wrap (d+1)=d+1:=IntWalk.i64_in _ (by omega)
 go_enter Tryz.func152,Tryz.ntmps152
 go_wp2
 go_end0
 exact ⟨⟨_,rfl⟩,rfl⟩
theorem p_empty (lo hi:Int) (w:World):Calls Tryz.prog 153 #[.agg #[.int .i64 lo,.int .i64 hi]] w fun e w'=>e=.returned (.bool (decide (hi<lo)))∧Below w.heap.size w w':=by
 go_enter Tryz.func153,Tryz.ntmps153
 go_wp2
 go_ret
 exact ⟨ret_bool rfl,by exact bel_⟩
theorem p_empty_v (lo hi:Int) (v:Bool) (w:World) (h:decide (hi<lo)=v):Calls Tryz.prog 153 #[.agg #[.int .i64 lo,.int .i64 hi]] w fun e w'=>e=.returned (.bool v)∧Below w.heap.size w w':=h ▸ p_empty lo hi w
abbrev accV (a:Acc):Value:=.agg #[.slice a.x.pA a.x.pn a.x.pc,.slice a.x.rA a.x.rn a.x.rc,.slice a.x.tA a.x.tn a.x.tc,.slice a.x.sA a.x.sn a.x.sc,.int .i64 a.kn,.slice a.RA a.Rn a.Rc,.slice a.SA a.Sn a.Sc,.map (some a.bm),.slice a.TA a.Tn a.Tc,.slice a.PA a.Pn a.Pc]
def findR (R:List Rcp) (n:Int):Option Rcp:=R.find? fun r=>r.src == n
theorem findR_at {R:List Rcp} {k:Nat} {r:Rcp} (n:Int) (h:R[k]?=some r):findR (R.drop k) n=if r.src=n then some r else findR (R.drop (k+1)) n:=by
 have hlt:k<R.length:=(List.getElem?_eq_some_iff.1 h).1
 have hp:R[k]=r:=(List.getElem?_eq_some_iff.1 h).2
 rw [List.drop_eq_getElem_cons hlt,hp,findR,List.find?_cons]
 by_cases hr:r.src=n
 ·simp [hr]
 ·have h1:(r.src == n)=false:=by simpa using hr
  simp only [h1,hr,if_false,findR]
def RetRc (o:Option Rcp) (w:World) (e:Ending) (w':World):Prop:=Below w.heap.size w w'∧match o with
 | some r=>∃ A n c,e=.returned (.tuple #[.agg #[.int .i64 r.src,.int .i64 r.bor,.int .i64 r.pap,.slice A n c,.int .i64 r.day,.int .i64 r.kn,.int .i64 r.un],.bool true])∧Is w w.heap.size A n r.lv∧n≤c∧c≤maxLen
 | none=>e=.returned (.tuple #[.agg #[.int .i64 0,.int .i64 0,.int .i64 0,.slice none 0 0,.int .i64 0,.int .i64 0,.int .i64 0],.bool false])
set_option maxRecDepth 10000 in
theorem p_receipt (R:List Rcp) (a:Acc) (n:Int) (w:World) (hn:a.Rn≤1000000) (hd:Rcs w w.heap.size a.RA a.Rn R) :
 Calls Tryz.prog 83 #[accV a,.int .i64 n] w (RetRc (findR R n) w):=by
 obtain ⟨⟨pA,pn,pc,rA,rn,rc,tA,tn,tc,sA,sn,sc⟩,kn,RA,Rn,Rc,SA,Sn,Sc,bm,TA,Tn,Tc,PA,Pn,Pc⟩:=a
 show Calls _ _ #[.agg #[.slice pA pn pc,.slice rA rn rc,.slice tA tn tc,.slice sA sn sc,.int .i64 kn,.slice RA Rn Rc,.slice SA Sn Sc,.map (some bm),.slice TA Tn Tc,.slice PA Pn Pc],.int .i64 n] _ _
 have hn':Rn≤1000000:=hn
 have HD:Hid (Rcs w w.heap.size RA Rn R):=by show Sq _ _ _ _ _ _ _;exact hd
 have HL:Hid (R.length=Rn):=by show _=_;exact hd.len
 obtain ⟨o,ho⟩:∃ o,findR R n=o:=⟨_,rfl⟩
 rw [ho]
 have HO:=hd_ ho
 clear hd hn ho
 go_enter Tryz.func83,Tryz.ntmps83
 go_wp2
 go_loopw [11] (fun i wr=>∃ k:Nat,k≤Rn∧i=.int .i64 k∧findR (R.drop k) n=o∧Below w.heap.size w wr∧BoxA wr (w.heap.size+1) 79 #[.int .i64 0,.int .i64 0,.int .i64 0,.slice none 0 0,.int .i64 0,.int .i64 0,.int .i64 0]) (fun i _=>Rn - (intOf i).toNat)
 case atStart=>exact ⟨0,by omega,rfl,HO.out,by exact bel_,by rw [boxa_iff,alloc_get,if_pos (by simp)]⟩
 case round =>
  obtain ⟨k,hk,rfl,hv,hB,hbx⟩:=hrel
  have HV:=hd_ hv
  clear hv
  have hs0:w.heap.size≤wr.heap.size:=hB.size
  have hbl:=hbx.lt
  by_cases hlt:k<Rn
  ·obtain ⟨b,o',r,rfl,hb,hp,A1,n1,c1,⟨h0,h1,h2,h3,h4,h5,h6⟩,hi1,hc1,hm1⟩:=(Sq.ext HD.out abR hB lr_).at_ hlt
   have HP:=hd_ (findR_at n hp)
   have hbr:b<wr.heap.size:=by omega
   clear hp
   by_cases he:r.src=n
   ·have HE:=hd_ he
    clear he
    have hsn:(r.src == n)=true:=by simpa using HE.out
    have ho:o=some r:=by rw [← HV.out,HP.out,if_pos HE.out]
    subst ho
    have hI:Is w w.heap.size A1 n1 r.lv:=Rd.keep hi1 fun b2 o2 hb2=>(hB.cell (p:=⟨b2,o2,none⟩) hb2).symm
    have HBX:=hd_ (hbx.alloc (.cells #[.int .i64 r.src,.int .i64 r.bor,.int .i64 r.pap,.slice A1 n1 c1,.int .i64 r.day,.int .i64 r.kn,.int .i64 r.un] 79))
    have f0:∀ j,wr.frozen? ⟨w.heap.size+1,j,none⟩=false:=fun j=>by simp [World.frozen?,show wr.heap[w.heap.size+1]?=_ from hbx]
    have hce:=hbx.cell
    clear hbx
    go_wp2
    refine bodyPost_ret (v:=.tuple #[.agg #[.int .i64 r.src,.int .i64 r.bor,.int .i64 r.pap,.slice A1 n1 c1,.int .i64 r.day,.int .i64 r.kn,.int .i64 r.un],.bool true]) ?_ rfl ?_
    ·(simp [results,Tryz.f83,go_sem];try go_simp)
    ·exact ⟨by exact bel_,A1,n1,c1,rfl,hI,hc1,hm1⟩
   ·have HE:=hd_ he
    clear he
    have hsn:(r.src == n)=false:=by simpa using HE.out
    have HBX:=hd_ (hbx.alloc (.cells #[.int .i64 r.src,.int .i64 r.bor,.int .i64 r.pap,.slice A1 n1 c1,.int .i64 r.day,.int .i64 r.kn,.int .i64 r.un] 79))
    clear hbx
    go_wp2
    go_roundw
    case rel=>exact ⟨k+1,by omega,by go_num,by rw [← HV.out,HP.out,if_neg HE.out],by exact bel_,HBX.out⟩
    case measure=>exact ms_
  ·have hkn:Hid (k=Rn):=by show _=_;omega
   have f0:∀ j,wr.frozen? ⟨w.heap.size+1,j,none⟩=false:=fun j=>by simp [World.frozen?,show wr.heap[w.heap.size+1]?=_ from hbx]
   have ho:o=none:=by rw [← HV.out,hkn.out,List.drop_eq_nil_of_le (by rw [HL.out];exact lr_)];rfl
   subst ho
   have hce:=hbx.cell
   go_wp2
   refine bodyPost_ret (v:=.tuple #[.agg #[.int .i64 0,.int .i64 0,.int .i64 0,.slice none 0 0,.int .i64 0,.int .i64 0,.int .i64 0],.bool false]) ?_ rfl ?_
   ·(simp [results,Tryz.f83,go_sem];try go_simp)
   ·exact ⟨by exact bel_,rfl⟩
def takesB (M:List ((Int × Int) × Value)) (r:Rcp) (l:List Int):Bool:=l.all fun x=>(getG M (r.src,x)).isNone && decide (x∈r.lv)
theorem zeroInt2 (w:World):(zeroValue 3).run Tryz.prog w=.ok (.int .i64 0) w:=by kernel_rfl
theorem all_take_succ {l:List Int} {k:Nat} {x:Int} {p:Int→Bool} (h:l[k]?=some x):(l.take (k+1)).all p=((l.take k).all p && p x):=by rw [take_snoc_some h,List.all_append];simp
theorem all_not {l:List Int} {k:Nat} {x:Int} {p:Int→Bool} (h:l[k]?=some x) (hp:p x=false):l.all p=false:=by
 rw [List.all_eq_false]
 exact ⟨x,List.mem_of_getElem? h,by simp [hp]⟩
theorem leaf_wf {l:List Int} (h:leavesB l=true) {x:Int} (hx:x∈l):(Lit.int .i64 x).wf=true:=by
 rw [leavesB,Bool.and_eq_true] at h
 have h1:=val_all h.2 x hx
 simp only [leafB,withinB,Bool.and_eq_true,decide_eq_true_eq] at h1
 exact wf_small (by omega) (by omega)
set_option maxRecDepth 10000 in
theorem p_takes (M:List ((Int × Int) × Value)) (a:Acc) (r:Rcp) (l:List Int) (A1:Option Addr) (n1 c1:Nat) (A:Option Addr) (n c:Nat) (w:World) (hn:n≤1000000) (hn1:n1≤1000000)
 (hm:MapS w a.bm M) (hr:Is w w.heap.size A1 n1 r.lv) (hl:Is w w.heap.size A n l) (hwf:∀ x∈l,(Lit.int .i64 x).wf=true) (hws:(Lit.int .i64 r.src).wf=true) :
 Calls Tryz.prog 151 #[accV a,.agg #[.int .i64 r.src,.int .i64 r.bor,.int .i64 r.pap,.slice A1 n1 c1,.int .i64 r.day,.int .i64 r.kn,.int .i64 r.un],.slice A n c] w fun e w'=>e=.returned (.bool (takesB M r l))∧Below w.heap.size w w':=by
 obtain ⟨⟨pA,pn,pc,rA,rn,rc,tA,tn,tc,sA,sn,sc⟩,kn,RA,Rn,Rc,SA,Sn,Sc,bm,TA,Tn,Tc,PA,Pn,Pc⟩:=a
 show Calls _ _ #[.agg #[.slice pA pn pc,.slice rA rn rc,.slice tA tn tc,.slice sA sn sc,.int .i64 kn,.slice RA Rn Rc,.slice SA Sn Sc,.map (some bm),.slice TA Tn Tc,.slice PA Pn Pc],_,_] _ _
 have HM:Hid (MapS w bm M):=by show MapG _ _ _ _ _;exact hm
 have HR:=hd_ hr
 have HI:=hd_ hl
 have HL:=hd_ hl.len
 have HW:=hd_ hwf
 obtain ⟨v,hv⟩:∃ v,takesB M r l=v:=⟨_,rfl⟩
 rw [hv]
 have HV:=hd_ hv
 clear hm hr hl hwf hv
 go_enter Tryz.func151,Tryz.ntmps151
 go_wp2
 go_loopw [13] (fun i wr=>∃ k:Nat,k≤n∧i=.int .i64 k∧takesB M r (l.take k)=true∧Below w.heap.size w wr∧w.heap.size+2≤wr.heap.size∧wr.cell? ⟨w.heap.size,7,none⟩=some (.map (some bm))∧wr.cell? ⟨w.heap.size+1,0,none⟩=some (.int .i64 r.src)∧wr.cell? ⟨w.heap.size+1,3,none⟩=some (.slice A1 n1 c1)) (fun i _=>n - (intOf i).toNat)
 case atStart=>exact ⟨0,by omega,rfl,rfl,by exact bel_,by simp,by simp,by simp,by simp⟩
 case round =>
  obtain ⟨k,hk,rfl,hall,hB,hsz,e0,e1,e2⟩:=hrel
  have HA:=hd_ hall
  clear hall
  have hs0:w.heap.size≤wr.heap.size:=hB.size
  by_cases hlt:k<n
  ·obtain ⟨b,o,x,rfl,hb,hx,hc0⟩:=(Is.ext HI.out hB lr_).at_ hlt
   have hwx:=HW.out x (List.mem_of_getElem? hx)
   have hlk:=(HM.out.ext (w':=wr) (hB)).look2 key_slips Tryz.underlying112 (a:=(r.src,x)) ⟨hws,hwx⟩ (zeroInt2 wr)
   have HX:=hd_ hx
   clear hx hwx
   obtain ⟨d,hd⟩:∃ d,decide (x∈r.lv)=d:=⟨_,rfl⟩
   have HD:=hd_ hd
   have hcon:∀ W:World,Is W W.heap.size A1 n1 r.lv→Calls Tryz.prog 71 #[.slice A1 n1 c1,.int .i64 x] W fun e w'=>e=.returned (.bool d)∧W=w':=fun W h=>by
    exact l_contains r.lv x d A1 n1 c1 W hn1 h hd
   have HC:=hd_ hcon
   clear hcon hd
   cases hg:getG M (r.src,x) with
   | some u =>
     rw [hg] at hlk
     simp only [Option.getD_some,Option.isSome_some] at hlk
     have hf:v=false:=by rw [← HV.out];exact all_not HX.out (by simp [hg])
     subst hf
     clear hg
     go_wp2
     go_ret
     exact ⟨rfl,hB⟩
   | none =>
     rw [hg] at hlk
     simp only [Option.getD_none,Option.isSome_none] at hlk
     cases d with
     | false =>
       have hf:v=false:=by rw [← HV.out];exact all_not HX.out (by simp [hg,HD.out])
       subst hf
       clear hg
       go_wp2_with (go_at_call 71;refine (HC.out _ (HR.out.now hB)).mono ?_;rintro e w1 ⟨rfl,rfl⟩)
       go_ret
       exact ⟨rfl,hB⟩
     | true =>
       have HF:Hid (takesB M r (l.take (k+1))=true):=by
        show _=_
        have:=HA.out
        rw [takesB] at this ⊢
        rw [all_take_succ HX.out,this]
        simp [hg]
        simpa using HD.out
       clear hg
       go_wp2_with (go_at_call 71;refine (HC.out _ (HR.out.now hB)).mono ?_;rintro e w1 ⟨rfl,rfl⟩)
       go_roundw
       case rel=>exact ⟨k+1,by omega,by go_num,HF.out,hB,hsz,e0,e1,e2⟩
       case measure=>exact ms_
  ·have hkn:Hid (k=n):=by show _=_;omega
   have hf:v=true:=by
    have:=HA.out
    rw [List.take_of_length_le (by rw [HL.out,hkn.out];exact lr_)] at this
    rw [← HV.out,this]
   subst hf
   go_wp2
   go_ret
   exact ⟨rfl,hB⟩
end Go.Proofs.YtmcmbicapdcfmaaGreat
