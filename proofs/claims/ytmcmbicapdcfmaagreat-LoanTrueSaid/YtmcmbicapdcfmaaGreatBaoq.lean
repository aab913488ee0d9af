/- Layer 2 of the texts that LoanBack takes: Baoq. -/
import Derived.Test.YtmcmbicapdcfmaaGreatBakq
import Derived.Test.YtmcmbicapdcfmaaGreatBanq
set_option linter.unusedVariables false
set_option linter.unusedSimpArgs false
set_option maxHeartbeats 16000000
namespace Go.Proofs.YtmcmbicapdcfmaaGreat
open Go.RowKit Go.Maps
theorem keyed_slip:Keyed Tryz.prog 152 :=
 Keyed.of_law (deep_law_laid (P:=Tryz.prog) (by kernel_rfl) (m:=2) (by decide) (of_decide_eq_true (by kernel_rfl)) (by kernel_rfl) (by kernel_rfl))
theorem keyType_slip:Tryz.prog.keyType 152=true:=by kernel_rfl
theorem cells_slip:Tryz.prog.cellsOf 152=2:=by kernel_rfl
theorem keyOf_slip (a b:Int) (h:wf2 a b):∃ l,keyOf Tryz.prog 152 (nk a b)=some l:=by
 have hk:=keyType_slip
 obtain ⟨m,hm⟩:=types_pos
 simp only [keyOf,Tryz.underlying152,hk,Value.formed,Value.cells,hm,cells_slip]
 simp only [Program.keyLits,Tryz.underlying152,cells_slip,cells_int,Tryz.underlying3]
 simp [h.1,h.2,cells_int,Tryz.underlying3]
abbrev MapS (w:World) (b:Nat) (L:List ((Int × Int) × Value)):Prop:=MapG (fun k:Int × Int=>nk k.1 k.2) (fun k=>wf2 k.1 k.2) w b L
theorem key_slips:KeyG (fun k:Int × Int=>nk k.1 k.2) (fun k=>wf2 k.1 k.2) 152 :=
 ⟨keyed_slip,fun a h=>keyOf_slip _ _ h,fun a b h=>nk_inj h⟩
structure Acc where
 x:Lsl
 kn:Int
 (RA:Option Addr) (Rn Rc:Nat)
 (SA:Option Addr) (Sn Sc:Nat)
 bm:Nat
 (TA:Option Addr) (Tn Tc:Nat)
 (PA:Option Addr) (Pn Pc:Nat)
structure Ast where
 l:Led
 R:List Rcp
 S:List Sgt
 M:List ((Int × Int) × Value)
 T:List Bool
 P:List (Int × Int)
def QB (w:World) (_ b o:Nat) (v:Bool):Prop:=w.cell? ⟨b,o,none⟩=some (.bool v)
theorem abB:Abides QB:=⟨fun w w' B b o x h hb hk=>(hk _ _ hb).trans h,fun _ _ _ _ _ _ h _=>h⟩
structure AccIn (w:World) (B:Nat) (a:Acc) (s:Ast):Prop where
 led:LedIn w B a.x s.l
 rr:Rcs w B a.RA a.Rn s.R
 ss:Sgs w B a.SA a.Sn s.S
 mm:MapS w a.bm s.M
 mB:a.bm<B
 tt:Sq QB 1 w B a.TA a.Tn s.T
 pp:Sq QF 2 w B a.PA a.Pn s.P
theorem AccIn.now {w w':World} {a:Acc} {s:Ast} (h:AccIn w w.heap.size a s) (hb:Below w.heap.size w w'):AccIn w' w'.heap.size a s :=
 ⟨h.led.now hb,h.rr.now abR hb,h.ss.now abS hb,h.mm.ext hb,Nat.lt_of_lt_of_le h.mB hb.size,h.tt.now abB hb,h.pp.now abF hb⟩
theorem p_counts2 (a b k:Int) (v:Bool) (w:World) (h:countsB a b k=v):Calls Tryz.prog 119 #[.int .i64 a,.int .i64 b,.int .i64 k] w fun e w'=>e=.returned (.bool v)∧w=w':=h ▸ p_counts a b k w
theorem p_upTo (b o:Nat) (lo hi d:Int) (w:World) (hf:∀ j,w.frozen? ⟨b,j,none⟩=false) (h0:w.cell? ⟨b,o,none⟩=some (.int .i64 lo)) (h1:w.cell? ⟨b,o+1,none⟩=some (.int .i64 hi)) :
 Calls Tryz.prog 154 #[.pointer (some ⟨b,o,none⟩),.int .i64 d] w fun e w'=>(∃ v,e=.returned v)∧w'=w.setCell ⟨b,o+1,none⟩ (.int .i64 (min hi d)):=by
 have f1:=hf (o+1)
 go_enter Tryz.func154,Tryz.ntmps154
 go_wp2
 go_end0
 exact ⟨⟨_,rfl⟩,rfl⟩
theorem p_behind (b o:Nat) (lo d:Int) (w:World) (hd:0≤d) (hd2:d≤1000000) (hf:∀ j,w.frozen? ⟨b,j,none⟩=false) (h0:w.cell? ⟨b,o,none⟩=some (.int .i64 lo)) :
 Calls Tryz.prog 152 #[.pointer (some ⟨b,o,none⟩),.int .i64 d] w fun e w'=>(∃ v,e=.returned v)∧w'=w.setCell ⟨b,o,none⟩ (.int .i64 (max lo (d+1))):=by
 have f1:=hf o
 have hw:IntKind.i64.wrap (d+1)=d+1:=IntWalk.i64_in _ (by omega)
 go_enter Tryz.func152,Tryz.ntmps152
 go_wp2
 go_end0
 exact ⟨⟨_,rfl⟩,rfl⟩
theorem p_empty (lo hi:Int) (w:World):Calls Tryz.prog 153 #[.agg #[.int .i64 lo,.int .i64 hi]] w fun e w'=>e=.returned (.bool (decide (hi<lo)))∧Below w.heap.size w w':=by
 go_enter Tryz.func153,Tryz.ntmps153
 go_wp2
 go_ret
 exact ⟨ret_bool rfl,by exact bel_⟩
theorem p_empty_v (lo hi:Int) (v:Bool) (w:World) (h:decide (hi<lo)=v):Calls Tryz.prog 153 #[.agg #[.int .i64 lo,.int .i64 hi]] w fun e w'=>e=.returned (.bool v)∧Below w.heap.size w w':=h ▸ p_empty lo hi w
abbrev accV (a:Acc):Value:=.agg #[.slice a.x.pA a.x.pn a.x.pc,.slice a.x.rA a.x.rn a.x.rc,.slice a.x.tA a.x.tn a.x.tc,.slice a.x.sA a.x.sn a.x.sc,.int .i64 a.kn,.slice a.RA a.Rn a.Rc,.slice a.SA a.Sn a.Sc,.map (some a.bm),.slice a.TA a.Tn a.Tc,.slice a.PA a.Pn a.Pc]
def findR (R:List Rcp) (n:Int):Option Rcp:=R.find? fun r=>r.src == n
theorem findR_at {R:List Rcp} {k:Nat} {r:Rcp} (n:Int) (h:R[k]?=some r):findR (R.drop k) n=if r.src=n then some r else findR (R.drop (k+1)) n:=by
 have hlt:k<R.length:=(List.getElem?_eq_some_iff.1 h).1
 have hp:R[k]=r:=(List.getElem?_eq_some_iff.1 h).2
 rw [List.drop_eq_getElem_cons hlt,hp,findR,List.find?_cons]
 by_cases hr:r.src=n
 ·simp [hr]
 ·have h1:(r.src == n)=false:=by simpa using hr
  simp only [h1,hr,if_false,findR]
def RetRc (o:Option Rcp) (w:World) (e:Ending) (w':World):Prop:=Below w.heap.size w w'∧match o with
 | some r=>∃ A n c,e=.returned (.tuple #[.agg #[.int .i64 r.src,.int .i64 r.bor,.int .i64 r.pap,.slice A n c,.int .i64 r.day,.int .i64 r.kn,.int .i64 r.un],.bool true])∧Is w w.heap.size A n r.lv∧n≤c∧c≤maxLen
 | none=>e=.returned (.tuple #[.agg #[.int .i64 0,.int .i64 0,.int .i64 0,.slice none 0 0,.int .i64 0,.int .i64 0,.int .i64 0],.bool false])
set_option maxRecDepth 10000 in
theorem p_receipt (R:List Rcp) (a:Acc) (n:Int) (w:World) (hn:a.Rn≤1000000) (hd:Rcs w w.heap.size a.RA a.Rn R) :
 Calls Tryz.prog 83 #[accV a,.int .i64 n] w (RetRc (findR R n) w):=by
 obtain ⟨⟨pA,pn,pc,rA,rn,rc,tA,tn,tc,sA,sn,sc⟩,kn,RA,Rn,Rc,SA,Sn,Sc,bm,TA,Tn,Tc,PA,Pn,Pc⟩:=a
 show Calls _ _ #[.agg #[.slice pA pn pc,.slice rA rn rc,.slice tA tn tc,.slice sA sn sc,.int .i64 kn,.slice RA Rn Rc,.slice SA Sn Sc,.map (some bm),.slice TA Tn Tc,.slice PA Pn Pc],.int .i64 n] _ _
 have hn':Rn≤1000000:=hn
 have HD:Hid (Rcs w w.heap.size RA Rn R):=by show Sq _ _ _ _ _ _ _;exact hd
 have HL:Hid (R.length=Rn):=by show _=_;exact hd.len
 obtain ⟨o,ho⟩:∃ o,findR R n=o:=⟨_,rfl⟩
 rw [ho]
 have HO:=hd_ ho
 clear hd hn ho
 go_enter Tryz.func83,Tryz.ntmps83
 go_wp2
 go_loopw [11] (fun i wr=>∃ k:Nat,k≤Rn∧i=.int .i64 k∧findR (R.drop k) n=o∧Below w.heap.size w wr∧BoxA wr (w.heap.size+1) 79 #[.int .i64 0,.int .i64 0,.int .i64 0,.slice none 0 0,.int .i64 0,.int .i64 0,.int .i64 0]) (fun i _=>Rn - (intOf i).toNat)
 case atStart=>exact ⟨0,by omega,rfl,HO.out,by exact bel_,by rw [boxa_iff,alloc_get,if_pos (by simp)]⟩
 case round =>
  obtain ⟨k,hk,rfl,hv,hB,hbx⟩:=hrel
  have HV:=hd_ hv
  clear hv
  have hs0:w.heap.size≤wr.heap.size:=hB.size
  have hbl:=hbx.lt
  by_cases hlt:k<Rn
  ·obtain ⟨b,o',r,rfl,hb,hp,A1,n1,c1,⟨h0,h1,h2,h3,h4,h5,h6⟩,hi1,hc1,hm1⟩:=(Sq.ext HD.out abR hB lr_).at_ hlt
   have HP:=hd_ (findR_at n hp)
   have hbr:b<wr.heap.size:=by omega
   clear hp
   by_cases he:r.src=n
   ·have HE:=hd_ he
    clear he
    have hsn:(r.src == n)=true:=by simpa using HE.out
    have ho:o=some r:=by rw [← HV.out,HP.out,if_pos HE.out]
    subst ho
    have hI:Is w w.heap.size A1 n1 r.lv:=Rd.keep hi1 fun b2 o2 hb2=>(hB.cell (p:=⟨b2,o2,none⟩) hb2).symm
    have HBX:=hd_ (hbx.alloc (.cells #[.int .i64 r.src,.int .i64 r.bor,.int .i64 r.pap,.slice A1 n1 c1,.int .i64 r.day,.int .i64 r.kn,.int .i64 r.un] 79))
    have f0:∀ j,wr.frozen? ⟨w.heap.size+1,j,none⟩=false:=fun j=>by simp [World.frozen?,show wr.heap[w.heap.size+1]?=_ from hbx]
    have hce:=hbx.cell
    clear hbx
    go_wp2
    refine bodyPost_ret (v:=.tuple #[.agg #[.int .i64 r.src,.int .i64 r.bor,.int .i64 r.pap,.slice A1 n1 c1,.int .i64 r.day,.int .i64 r.kn,.int .i64 r.un],.bool true]) ?_ rfl ?_
    ·(simp [results,Tryz.f83,go_sem];try go_simp)
    ·exact ⟨by exact bel_,A1,n1,c1,rfl,hI,hc1,hm1⟩
   ·have HE:=hd_ he
    clear he
    have hsn:(r.src == n)=false:=by simpa using HE.out
    have HBX:=hd_ (hbx.alloc (.cells #[.int .i64 r.src,.int .i64 r.bor,.int .i64 r.pap,.slice A1 n1 c1,.int .i64 r.day,.int .i64 r.kn,.int .i64 r.un] 79))
    clear hbx
    go_wp2
    go_roundw
    case rel=>exact ⟨k+1,by omega,by go_num,by rw [← HV.out,HP.out,if_neg HE.out],by exact bel_,HBX.out⟩
    case measure=>exact ms_
  ·have hkn:Hid (k=Rn):=by show _=_;omega
   have f0:∀ j,wr.frozen? ⟨w.heap.size+1,j,none⟩=false:=fun j=>by simp [World.frozen?,show wr.heap[w.heap.size+1]?=_ from hbx]
   have ho:o=none:=by rw [← HV.out,hkn.out,List.drop_eq_nil_of_le (by rw [HL.out];exact lr_)];rfl
   subst ho
   have hce:=hbx.cell
   go_wp2
   refine bodyPost_ret (v:=.tuple #[.agg #[.int .i64 0,.int .i64 0,.int .i64 0,.slice none 0 0,.int .i64 0,.int .i64 0,.int .i64 0],.bool false]) ?_ rfl ?_
   ·(simp [results,Tryz.f83,go_sem];try go_simp)
   ·exact ⟨by exact bel_,rfl⟩
def takesB (M:List ((Int × Int) × Value)) (r:Rcp) (l:List Int):Bool:=l.all fun x=>(getG M (r.src,x)).isNone && decide (x∈r.lv)
theorem zeroInt2 (w:World):(zeroValue 3).run Tryz.prog w=.ok (.int .i64 0) w:=by kernel_rfl
theorem all_take_succ {l:List Int} {k:Nat} {x:Int} {p:Int→Bool} (h:l[k]?=some x):(l.take (k+1)).all p=((l.take k).all p && p x):=by rw [take_snoc_some h,List.all_append];simp
theorem all_not {l:List Int} {k:Nat} {x:Int} {p:Int→Bool} (h:l[k]?=some x) (hp:p x=false):l.all p=false:=by
 rw [List.all_eq_false]
 exact ⟨x,List.mem_of_getElem? h,by simp [hp]⟩
theorem leaf_wf {l:List Int} (h:leavesB l=true) {x:Int} (hx:x∈l):(Lit.int .i64 x).wf=true:=by
 rw [leavesB,Bool.and_eq_true] at h
 have h1:=val_all h.2 x hx
 simp only [leafB,withinB,Bool.and_eq_true,decide_eq_true_eq] at h1
 exact wf_small (by omega) (by omega)
set_option maxRecDepth 10000 in
theorem p_takes (M:List ((Int × Int) × Value)) (a:Acc) (r:Rcp) (l:List Int) (A1:Option Addr) (n1 c1:Nat) (A:Option Addr) (n c:Nat) (w:World) (hn:n≤1000000) (hn1:n1≤1000000)
 (hm:MapS w a.bm M) (hr:Is w w.heap.size A1 n1 r.lv) (hl:Is w w.heap.size A n l) (hwf:∀ x∈l,(Lit.int .i64 x).wf=true) (hws:(Lit.int .i64 r.src).wf=true) :
 Calls Tryz.prog 151 #[accV a,.agg #[.int .i64 r.src,.int .i64 r.bor,.int .i64 r.pap,.slice A1 n1 c1,.int .i64 r.day,.int .i64 r.kn,.int .i64 r.un],.slice A n c] w fun e w'=>e=.returned (.bool (takesB M r l))∧Below w.heap.size w w':=by
 obtain ⟨⟨pA,pn,pc,rA,rn,rc,tA,tn,tc,sA,sn,sc⟩,kn,RA,Rn,Rc,SA,Sn,Sc,bm,TA,Tn,Tc,PA,Pn,Pc⟩:=a
 show Calls _ _ #[.agg #[.slice pA pn pc,.slice rA rn rc,.slice tA tn tc,.slice sA sn sc,.int .i64 kn,.slice RA Rn Rc,.slice SA Sn Sc,.map (some bm),.slice TA Tn Tc,.slice PA Pn Pc],_,_] _ _
 have HM:Hid (MapS w bm M):=by show MapG _ _ _ _ _;exact hm
 have HR:=hd_ hr
 have HI:=hd_ hl
 have HL:=hd_ hl.len
 have HW:=hd_ hwf
 obtain ⟨v,hv⟩:∃ v,takesB M r l=v:=⟨_,rfl⟩
 rw [hv]
 have HV:=hd_ hv
 clear hm hr hl hwf hv
 go_enter Tryz.func151,Tryz.ntmps151
 go_wp2
 go_loopw [13] (fun i wr=>∃ k:Nat,k≤n∧i=.int .i64 k∧takesB M r (l.take k)=true∧Below w.heap.size w wr∧w.heap.size+2≤wr.heap.size∧wr.cell? ⟨w.heap.size,7,none⟩=some (.map (some bm))∧wr.cell? ⟨w.heap.size+1,0,none⟩=some (.int .i64 r.src)∧wr.cell? ⟨w.heap.size+1,3,none⟩=some (.slice A1 n1 c1)) (fun i _=>n - (intOf i).toNat)
 case atStart=>exact ⟨0,by omega,rfl,rfl,by exact bel_,by simp,by simp,by simp,by simp⟩
 case round =>
  obtain ⟨k,hk,rfl,hall,hB,hsz,e0,e1,e2⟩:=hrel
  have HA:=hd_ hall
  clear hall
  have hs0:w.heap.size≤wr.heap.size:=hB.size
  by_cases hlt:k<n
  ·obtain ⟨b,o,x,rfl,hb,hx,hc0⟩:=(Is.ext HI.out hB lr_).at_ hlt
   have hwx:=HW.out x (List.mem_of_getElem? hx)
   have hlk:=(HM.out.ext (w':=wr) (hB)).look2 key_slips Tryz.underlying112 (a:=(r.src,x)) ⟨hws,hwx⟩ (zeroInt2 wr)
   have HX:=hd_ hx
   clear hx hwx
   obtain ⟨d,hd⟩:∃ d,decide (x∈r.lv)=d:=⟨_,rfl⟩
   have HD:=hd_ hd
   have hcon:∀ W:World,Is W W.heap.size A1 n1 r.lv→Calls Tryz.prog 71 #[.slice A1 n1 c1,.int .i64 x] W fun e w'=>e=.returned (.bool d)∧W=w':=fun W h=>by
    exact l_contains r.lv x d A1 n1 c1 W hn1 h hd
   have HC:=hd_ hcon
   clear hcon hd
   cases hg:getG M (r.src,x) with
   | some u =>
     rw [hg] at hlk
     simp only [Option.getD_some,Option.isSome_some] at hlk
     have hf:v=false:=by rw [← HV.out];exact all_not HX.out (by simp [hg])
     subst hf
     clear hg
     go_wp2
     go_ret
     exact ⟨rfl,hB⟩
   | none =>
     rw [hg] at hlk
     simp only [Option.getD_none,Option.isSome_none] at hlk
     cases d with
     | false =>
       have hf:v=false:=by rw [← HV.out];exact all_not HX.out (by simp [hg,HD.out])
       subst hf
       clear hg
       go_wp2_with (go_at_call 71;refine (HC.out _ (HR.out.now hB)).mono ?_;rintro e w1 ⟨rfl,rfl⟩)
       go_ret
       exact ⟨rfl,hB⟩
     | true =>
       have HF:Hid (takesB M r (l.take (k+1))=true):=by
        show _=_
        have:=HA.out
        rw [takesB] at this ⊢
        rw [all_take_succ HX.out,this]
        simp [hg]
        simpa using HD.out
       clear hg
       go_wp2_with (go_at_call 71;refine (HC.out _ (HR.out.now hB)).mono ?_;rintro e w1 ⟨rfl,rfl⟩)
       go_roundw
       case rel=>exact ⟨k+1,by omega,by go_num,HF.out,hB,hsz,e0,e1,e2⟩
       case measure=>exact ms_
  ·have hkn:Hid (k=n):=by show _=_;omega
   have hf:v=true:=by
    have:=HA.out
    rw [List.take_of_length_le (by rw [HL.out,hkn.out];exact lr_)] at this
    rw [← HV.out,this]
   subst hf
   go_wp2
   go_ret
   exact ⟨rfl,hB⟩
end Go.Proofs.YtmcmbicapdcfmaaGreat
namespace Go.Proofs.YtmcmbicapdcfmaaGreat
open Go.RowKit Go.Shelf Go.Maps
attribute [local go_sem] Oper.semAt_some
structure Rv where
 r:Rcp
 A:Option Addr
 (n c:Nat)
def QV (w:World) (B b o:Nat) (x:Rv):Prop :=
 (w.cell? ⟨b,o,none⟩=some (.int .i64 x.r.src)∧w.cell? ⟨b,o+1,none⟩=some (.int .i64 x.r.bor)∧w.cell? ⟨b,o+2,none⟩=some (.int .i64 x.r.pap)∧w.cell? ⟨b,o+3,none⟩=some (.slice x.A x.n x.c)∧w.cell? ⟨b,o+4,none⟩=some (.int .i64 x.r.day)∧w.cell? ⟨b,o+5,none⟩=some (.int .i64 x.r.kn)∧w.cell? ⟨b,o+6,none⟩=some (.int .i64 x.r.un)) ∧
 (Is w B x.A x.n x.r.lv∧x.n≤x.c∧x.c≤maxLen)
theorem abV:Abides QV:=⟨fun w w' B b o x h hb hk=>by
 obtain ⟨⟨h0,h1,h2,h3,h4,h5,h6⟩,hi,hc⟩:=h
 exact ⟨⟨(hk _ _ hb).trans h0,(hk _ _ hb).trans h1,(hk _ _ hb).trans h2,(hk _ _ hb).trans h3,(hk _ _ hb).trans h4,(hk _ _ hb).trans h5,(hk _ _ hb).trans h6⟩,Rd.keep hi hk,hc⟩,fun _ _ _ _ _ _ h hB=>⟨h.1,Is.more h.2.1 hB,h.2.2⟩⟩
theorem rvs_of {w:World} {B n:Nat} {A:Option Addr} {R:List Rcp} (h:Rcs w B A n R):∃ xs:List Rv,xs.map Rv.r=R∧Sq QV 7 w B A n xs:=by
 by_cases h0:0<n
 ·obtain ⟨b,o,e,hb,hc⟩:=h.2 h0
  have hex:∀ k:Fin R.length,∃ v:Rv,v.r=R[k]∧QV w B b (o+k*7) v:=fun k=>by
   obtain ⟨A1,n1,c1,hq⟩:=hc k R[k] (List.getElem?_eq_getElem k.2)
   exact ⟨⟨R[k],A1,n1,c1⟩,rfl,hq⟩
  refine ⟨List.ofFn fun k=>Classical.choose (hex k),?_,by rw [List.length_ofFn];exact h.1,fun _=>⟨b,o,e,hb,fun k x hx=>?_⟩⟩
  ·apply List.ext_getElem
   ·simp
   ·intro i h1 h2
    rw [List.getElem_map,List.getElem_ofFn]
    exact (Classical.choose_spec (hex ⟨i,h2⟩)).1
  ·rw [List.getElem?_ofFn] at hx
   split at hx
   ·rename_i hk
    cases hx
    exact (Classical.choose_spec (hex ⟨k,hk⟩)).2
   ·cases hx
 ·have hn:n=0:=by omega
  subst hn
  have hR:R=[]:=List.eq_nil_of_length_eq_zero h.1
  subst hR
  exact ⟨[],rfl,rfl,fun h=>absurd h (by omega)⟩
theorem Rcs.of_rvs {w:World} {B n:Nat} {A:Option Addr} {xs:List Rv} (h:Sq QV 7 w B A n xs):Rcs w B A n (xs.map Rv.r) :=
 ⟨by rw [List.length_map];exact h.1,fun h0=>by
   obtain ⟨b,o,e,hb,hc⟩:=h.2 h0
   refine ⟨b,o,e,hb,fun k x hx=>?_⟩
   rw [List.getElem?_map] at hx
   obtain ⟨v,hv,rfl⟩:=Option.map_eq_some_iff.1 hx
   exact ⟨v.A,v.n,v.c,hc k v hv⟩⟩
def isOfB (pap leaf:Int) (r:Rcp):Bool:=decide (r.pap=pap) && decide (leaf∈r.lv)
def ofL (xs:List Rv) (pap leaf:Int):List Rv:=xs.filter fun v=>isOfB pap leaf v.r
abbrev YR (xs:List Rv) (pap leaf:Int):={ x:Rv // x∈ofL xs pap leaf }
abbrev rvV (v:Rv):Value:=.agg #[.int .i64 v.r.src,.int .i64 v.r.bor,.int .i64 v.r.pap,.slice v.A v.n v.c,.int .i64 v.r.day,.int .i64 v.r.kn,.int .i64 v.r.un]
def encR {xs:List Rv} {pap leaf:Int} (x:YR xs pap leaf):Array Value:=#[rvV x.1]
theorem ofL_in {xs:List Rv} {pap leaf:Int} {k:Nat} {v:Rv} (hv:xs[k]?=some v) (h:isOfB pap leaf v.r=true):ofL (xs.take (k+1)) pap leaf=ofL (xs.take k) pap leaf ++ [v]:=by
 unfold ofL;rw [take_snoc_some hv,List.filter_append];simp [h]
theorem ofL_out {xs:List Rv} {pap leaf:Int} {k:Nat} {v:Rv} (hv:xs[k]?=some v) (h:isOfB pap leaf v.r=false):ofL (xs.take (k+1)) pap leaf=ofL (xs.take k) pap leaf:=by
 unfold ofL;rw [take_snoc_some hv,List.filter_append];simp [h]
theorem ofL_pre (xs:List Rv) (pap leaf:Int) (k:Nat):ofL (xs.take k) pap leaf <+: ofL xs pap leaf:=(List.take_prefix k xs).filter _
theorem p_of (a:Acc) (pap leaf:Int) (w:World) :
 Calls Tryz.prog 121 #[accV a,.agg #[.int .i64 pap,.int .i64 leaf]] w fun e w'=>e=.returned (.func (.func 155) #[] #[.pointer (some ⟨w.heap.size,0,none⟩),.pointer (some ⟨w.heap.size+1,0,none⟩)]) ∧
  w'=(w.alloc (.cells #[.slice a.x.pA a.x.pn a.x.pc,.slice a.x.rA a.x.rn a.x.rc,.slice a.x.tA a.x.tn a.x.tc,.slice a.x.sA a.x.sn a.x.sc,.int .i64 a.kn,.slice a.RA a.Rn a.Rc,.slice a.SA a.Sn a.Sc,.map (some a.bm),.slice a.TA a.Tn a.Tc,.slice a.PA a.Pn a.Pc] 115)).alloc (.cells #[.int .i64 pap,.int .i64 leaf] 48):=by
 go_enter Tryz.func121,Tryz.ntmps121
 go_wp2
 go_ret
 exact ⟨rfl,rfl⟩
set_option maxRecDepth 100000 in
theorem of_in (n:Nat) (hn:1≤n) (l ba bf B:Nat) (P:Nat→Prop) (xs:List Rv) (pap leaf:Int) (RA:Option Addr) (Rn Rc:Nat) (J Jx:List (YR xs pap leaf)→World→Prop)
 (hN:Rn≤1000000) (hN1:∀ v∈xs,v.n≤1000000) (W:World) (hJ:AbidesFrom W.heap.size J) (hJx:AbidesFrom W.heap.size Jx)
 (hY:∀ pre x W1,J pre W1→pre.length<(ofL xs pap leaf).length→YieldAt Fence.wide (n - 1) Tryz.prog l (encR x) W1 fun e W' =>
   (e=.returned (.bool true)∧J (pre ++ [x]) W'∧KeepP P W1 W')∨(e=.returned (.bool false)∧Jx (pre ++ [x]) W'))
 (hPl:∀ k,k<B→P k) (hPa:P ba) (hPf:P bf) (hPw:∀ k,P k→k<W.heap.size) (hB:B≤W.heap.size)
 (c0:W.cell? ⟨ba,5,none⟩=some (.slice RA Rn Rc)) (c1:W.cell? ⟨bf,0,none⟩=some (.int .i64 pap)) (c2:W.cell? ⟨bf,1,none⟩=some (.int .i64 leaf))
 (hR:Sq QV 7 W B RA Rn xs) (h0:J [] W) :
 CallsIn Fence.wide n Tryz.prog 155 #[.func (.yield l) #[] #[],.pointer (some ⟨ba,0,none⟩),.pointer (some ⟨bf,0,none⟩)] W fun e W'=>(∃ v,e=.returned v) ∧
  ((∃ ys,ys.map (·.1)=ofL xs pap leaf∧J ys W')∨(∃ pre,pre.map (·.1) <+: ofL xs pap leaf∧Jx pre W')):=by
 have hlen:xs.length=Rn:=hR.len
 refine callsIn_of_wp Tryz.func155 rfl trivial ?_ rfl
 simp only [Tryz.ntmps155,List.size_toArray,List.length_cons,List.length_nil,Nat.reduceAdd,Nat.reduceSub,Array.replicate_succ,Array.replicate_zero,List.push_toArray,List.append_toArray,List.nil_append,List.cons_append]
 have HR0:=hd_ hR
 have HL:=hd_ hlen
 clear hR hlen
 gi_wp2
 gi_loopw [9] (fun i wr=>∃ k:Nat,k≤Rn∧i=.int .i64 k∧KeepP P W wr∧∃ pre,pre.map (·.1)=ofL (xs.take k) pap leaf∧J pre wr) (fun i _=>Rn - (intOf i).toNat)
 case atStart=>exact ⟨0,by omega,rfl,KeepP.refl _ _,[],rfl,h0⟩
 case round =>
  obtain ⟨k,hk,rfl,hKp,pre,hpre,hJs⟩:=hrel
  have e1:=(hKp.cell hPf 0).trans c1
  have e2:=(hKp.cell hPf 1).trans c2
  have hsz:W.heap.size≤wr.heap.size:=hKp.size
  have HP:=hd_ hpre
  clear hpre
  have hbf':bf<wr.heap.size:=Nat.lt_of_lt_of_le (hPw _ hPf) hsz
  have hPr:∀ k,P k→k<wr.heap.size:=fun k hk=>Nat.lt_of_lt_of_le (hPw _ hk) hsz
  by_cases hlt:k<Rn
  ·have hRw:Sq QV 7 wr B RA Rn xs:=HR0.out.keep abV fun b o hb=>hKp.cell (hPl _ hb) o
   obtain ⟨b,o,x,rfl,hb,hx,⟨h0,h1,h2,h3,h4,h5,h6⟩,hi,hc,hm⟩:=hRw.at_ hlt
   have hbr:b<wr.heap.size:=by omega
   have HX:=hd_ hx
   have hxn:=hN1 x (List.mem_of_getElem? hx)
   clear hx
   have HI:Hid (∀ W',Below wr.heap.size wr W'→Is W' W'.heap.size x.A x.n x.r.lv):=by
    show ∀ _,_
    exact fun W' hb'=>(Is.more hi (by omega)).now hb'
   clear hi hRw
   have hbx:Below wr.heap.size wr (wr.alloc (.cells #[.int .i64 x.r.src,.int .i64 x.r.bor,.int .i64 x.r.pap,.slice x.A x.n x.c,.int .i64 x.r.day,.int .i64 x.r.kn,.int .i64 x.r.un] 79)):=by exact bel_
   have HJ2:Hid (J pre (wr.alloc (.cells #[.int .i64 x.r.src,.int .i64 x.r.bor,.int .i64 x.r.pap,.slice x.A x.n x.c,.int .i64 x.r.day,.int .i64 x.r.kn,.int .i64 x.r.un] 79))):=hJ _ _ _ none hJs (grown_of_below hbx) (by simp)
   have HK2:=hd_ (hKp.trans (KeepP.of_below hbx hPr))
   clear hJs
   by_cases hp:x.r.pap=pap
   ·have hpd:(x.r.pap == pap)=true:=by simpa using hp
    cases hd:decide (leaf∈x.r.lv) with
    | false =>
      have HF:Hid (ofL (xs.take (k+1)) pap leaf=ofL (xs.take k) pap leaf):=by show _=_;exact ofL_out HX.out (by simp [isOfB,hd])
      have HD:=hd_ hd
      clear hd hp
      gi_wp2_with (refine ⟨trivial,?_⟩;gi_at_call 71;refine (callsIn_wide.2 (l_contains x.r.lv leaf false x.A x.n x.c _ hxn (HI.out _ hbx) HD.out)).mono ?_;rintro e w1 ⟨rfl,rfl⟩)
      refine ⟨fun _ h=>(by cases h),?_⟩
      gi_wp2
      exact ⟨⟨k+1,by omega,by go_num,HK2.out,pre,by rw [HF.out];exact HP.out,HJ2.out⟩,by simp [intOf];omega⟩
    | true =>
      have HF:Hid (ofL (xs.take (k+1)) pap leaf=ofL (xs.take k) pap leaf ++ [x]):=by show _=_;exact ofL_in HX.out (by simp [isOfB,hd,hp])
      have hmem:x∈ofL xs pap leaf:=List.mem_filter.2 ⟨List.mem_of_getElem? HX.out,by simp [isOfB,hd,hp]⟩
      have hpl:pre.length<(ofL xs pap leaf).length:=by
       have h1:pre.length=(ofL (xs.take k) pap leaf).length:=by rw [← HP.out,List.length_map]
       have h2:=(ofL_pre xs pap leaf (k+1)).length_le
       rw [HF.out,List.length_append] at h2
       simp at h2
       omega
      have HD:=hd_ hd
      clear hd hp
      obtain ⟨fn,tmps,assign,body,hy,hRy⟩:=hY pre ⟨x,hmem⟩ (wr.alloc (.cells #[.int .i64 x.r.src,.int .i64 x.r.bor,.int .i64 x.r.pap,.slice x.A x.n x.c,.int .i64 x.r.day,.int .i64 x.r.kn,.int .i64 x.r.un] 79)) HJ2.out hpl
      have HY:=hd_ hy
      clear hy
      gi_wp2_with (refine ⟨trivial,?_⟩;gi_at_call 71;refine (callsIn_wide.2 (l_contains x.r.lv leaf true x.A x.n x.c _ hxn (HI.out _ hbx) HD.out)).mono ?_;rintro e w1 ⟨rfl,rfl⟩)
      have hy:=HY.out
      simp only [encR] at hy
      rw [hy]
      simp only [Oper.uponIn]
      refine ⟨fun _=>hn,?_⟩
      refine hRy.mono ?_
      rintro e w3 (⟨rfl,hJ3,hk3⟩ | ⟨rfl,hJx3⟩)
      ·gi_wp2
       exact ⟨⟨k+1,by omega,by go_num,HK2.out.trans hk3,pre ++ [⟨x,hmem⟩],by rw [HF.out,List.map_append,HP.out];rfl,hJ3⟩,by simp [intOf];omega⟩
      ·gi_wp2
       refine bodyPost_ret (results_none rfl _ _ _) rfl ?_
       refine ⟨⟨_,rfl⟩,.inr ⟨pre ++ [⟨x,hmem⟩],?_,hJx3⟩⟩
       have h2:=ofL_pre xs pap leaf (k+1)
       rw [HF.out,← HP.out] at h2
       rw [List.map_append]
       exact h2
   ·have hpd:(x.r.pap == pap)=false:=by simpa using hp
    have HF:Hid (ofL (xs.take (k+1)) pap leaf=ofL (xs.take k) pap leaf):=by show _=_;exact ofL_out HX.out (by simp [isOfB,hp])
    clear hp
    gi_wp2
    refine ⟨trivial,?_⟩
    gi_wp2
    refine ⟨fun _ h=>(by cases h),?_⟩
    gi_wp2
    exact ⟨⟨k+1,by omega,by go_num,HK2.out,pre,by rw [HF.out];exact HP.out,HJ2.out⟩,by simp [intOf];omega⟩
  ·have hkn:Hid (k=Rn):=by show _=_;omega
   have e0:=(hKp.cell hPa 5).trans c0
   gi_wp2
   go_end0
   refine ⟨⟨_,rfl⟩,.inl ⟨pre,?_,hJs⟩⟩
   rw [HP.out,List.take_of_length_le (by rw [HL.out,hkn.out];exact lr_)]
theorem of_stops (n:Nat) (hn:1≤n) (ba bf B:Nat) (P:Nat→Prop) (xs:List Rv) (pap leaf:Int) (RA:Option Addr) (Rn Rc:Nat) (w:World)
 (hN:Rn≤1000000) (hN1:∀ v∈xs,v.n≤1000000) (hPl:∀ k,k<B→P k) (hPa:P ba) (hPf:P bf) (hPw:∀ k,P k→k<w.heap.size) (hB:B≤w.heap.size)
 (c0:w.cell? ⟨ba,5,none⟩=some (.slice RA Rn Rc)) (c1:w.cell? ⟨bf,0,none⟩=some (.int .i64 pap)) (c2:w.cell? ⟨bf,1,none⟩=some (.int .i64 leaf)) (hR:Sq QV 7 w B RA Rn xs) :
 SeqStopsK Fence.wide n Tryz.prog 155 #[.pointer (some ⟨ba,0,none⟩),.pointer (some ⟨bf,0,none⟩)] (encR (xs:=xs) (pap:=pap) (leaf:=leaf)) (KeepP P) (fun ys=>ys.map (·.1)=ofL xs pap leaf) (fun pre=>pre.map (·.1) <+: ofL xs pap leaf) (ofL xs pap leaf).length w:=fun l J Jx W hW hJ hJx hY h0 =>
 of_in n hn l ba bf B P xs pap leaf RA Rn Rc J Jx hN hN1 W hJ hJx hY hPl hPa hPf (fun k hk=>Nat.lt_of_lt_of_le (hPw k hk) hW.size) (Nat.le_trans hB hW.size)
  ((hW.cell (p:=⟨ba,5,none⟩) (hPw _ hPa)).trans c0) ((hW.cell (p:=⟨bf,0,none⟩) (hPw _ hPf)).trans c1) ((hW.cell (p:=⟨bf,1,none⟩) (hPw _ hPf)).trans c2) (hR.ext abV hW hB) h0
end Go.Proofs.YtmcmbicapdcfmaaGreat
