/- Layer 2 of the texts that LoanBack takes: Bavq. -/
import Derived.Test.YtmcmbicapdcfmaaGreatBauq
set_option linter.unusedVariables false
set_option linter.unusedSimpArgs false
set_option maxHeartbeats 16000000
namespace Go.Proofs.YtmcmbicapdcfmaaGreat
open Go.RowKit Go.Maps
theorem made_two (v:Value) (n:Nat):(madeCells #[v,v] n).toList=List.replicate n v:=by
 apply List.ext_getElem?
 intro j
 by_cases hj:j<n
 ·rcases Nat.mod_two_eq_zero_or_one j with h | h <;> simp [madeCells,hj,h]
 ·simp [madeCells,hj]
theorem made_bool (n:Nat):madeCells #[.bool false] n=(boolL (List.replicate n false)).toArray:=by
 apply Array.ext'
 rw [toList_madeCells_one]
 simp [boolL]
theorem fol_rep (n:Nat):folCells (List.replicate n (0,0))=List.replicate (n*2) (.int .i64 0):=by
 induction n with
 | zero=>rfl
 | succ n ih =>
   rw [List.replicate_succ,show (n+1)*2=n*2+1+1 from by omega,List.replicate_succ,List.replicate_succ,← ih]
   rfl
theorem made_span (n:Nat):madeCells #[.int .i64 0,.int .i64 0] (n*2)=(folCells (List.replicate n (0,0))).toArray:=by
 apply Array.ext'
 rw [made_two,fol_rep]
theorem infoBool:(Tryz.prog.info? 4).map (fun i=>(i.zero,i.size,i.bytes))=some (some (.bool false),1,1):=by kernel_rfl
theorem make_bool (n:Nat) (hn:n≤1000000) (w:World):(Instr.makeSlice 84 (.int .i64 (n:Int)) (.int .i64 (n:Int))).run Tryz.prog w=.ok (.slice (some ⟨w.heap.size,0,none⟩) n n) (w.alloc (.cells (boolL (List.replicate n false)).toArray 4)):=by
 obtain ⟨i0,hi,hz0,hz1,hz2⟩:=info_parts infoBool
 have h:=run_make (w:=w) 84 4 i0 _ Tryz.underlying84 hi hz0 .i64 .i64 n n (by omega) (Int.le_refl _) (by rw [hz2];omega) (by omega)
 rw [h,hz1]
 simp only [Int.toNat_natCast,Nat.mul_one,Value.cells]
 rw [made_bool]
theorem make_span (n:Nat) (hn:n≤1000000) (w:World):(Instr.makeSlice 113 (.int .i64 (n:Int)) (.int .i64 (n:Int))).run Tryz.prog w=.ok (.slice (some ⟨w.heap.size,0,none⟩) n n) (w.alloc (.cells (folCells (List.replicate n (0,0))).toArray 133)):=by
 obtain ⟨i0,hi,hz0,hz1,hz2⟩:=info_parts infoSpan
 have h:=run_make (w:=w) 113 133 i0 _ Tryz.underlying113 hi hz0 .i64 .i64 n n (by omega) (Int.le_refl _) (by rw [hz2];omega) (by omega)
 rw [h,hz1]
 simp only [Int.toNat_natCast,Value.cells]
 rw [made_span]
structure LedOk (l:Led):Prop where
 pn:l.pp.length≤12
 rn:l.rc.length≤60
 tn:l.rt.length≤60
 sn:l.sg.length≤60
 pp:∀ p∈l.pp,0≤p.lv∧p.lv≤30
 rc:∀ r∈l.rc,r.lv.length≤30∧(Lit.int .i64 r.src).wf=true∧(∀ x∈r.lv,(Lit.int .i64 x).wf=true)∧0≤r.day∧r.day≤100000
 rt:∀ t∈l.rt,t.lv.length≤30∧∀ x∈t.lv,(Lit.int .i64 x).wf=true
 sg:sgsOk l.sg
theorem led_ok {l:Led} (h:ledB l=true):LedOk l:=by
 simp only [ledB,Bool.and_eq_true] at h
 obtain ⟨h1,h2,h3,h4,_⟩:=h
 refine ⟨val_len h1,val_len h2,val_len h3,val_len h4,fun p hp=>?_,fun r hr=>?_,fun t ht=>?_,fun s hs=>?_⟩
 ·have:=val_all h1 p hp
  simp only [Ppr.okB,withinB,Bool.and_eq_true,decide_eq_true_eq] at this
  omega
 ·have h5:=val_all h2 r hr
  simp only [Rcp.okB,Bool.and_eq_true] at h5
  obtain ⟨a0,a1,a2,a3,a4,a5⟩:=h5
  simp only [withinB,Bool.and_eq_true,decide_eq_true_eq] at a0 a4
  exact ⟨leaves_len a3,wf_small (by omega) (by omega),fun x hx=>leaf_wf a3 hx,by omega,by omega⟩
 ·have h5:=val_all h3 t ht
  simp only [Rtn.okB,Bool.and_eq_true] at h5
  obtain ⟨a0,a1,a2,a3,a4,a5⟩:=h5
  exact ⟨leaves_len a3,fun x hx=>leaf_wf a3 hx⟩
 ·have h5:=val_all h4 s hs
  simp only [Sgt.okB,withinB,Bool.and_eq_true,decide_eq_true_eq] at h5
  obtain ⟨a0,a1,a2,a3,a4,a5⟩:=h5
  exact ⟨wf_small (by omega) (by omega),by omega,by omega⟩
def RetOp (l:Led) (x:Lsl) (kn:Int) (w:World) (e:Ending) (w':World):Prop:=∃ a:Acc,e=.returned (accV a)∧Below w.heap.size w w'∧a.x=x∧a.kn=kn∧AccR w' a (opnL l kn).M (cntR l kn) (opnL l kn).P ∧
 Sgs w' w'.heap.size a.SA a.Sn (cntS l kn)∧Sq QB 1 w' w'.heap.size a.TA a.Tn (opnL l kn).T∧a.Pn=x.tn∧a.Tn=x.tn∧a.Sn≤60∧a.Sn≤a.Sc∧a.Sc≤maxLen
theorem own_box {w:World} {base size n b B:Nat} {e t:TypeId} {v:Value} {xs:List Value} {cs:Array Value} (h:w.ownsRow base e size v n xs) (hb:v.ownBlock=some b) (hB:BoxA w B t cs) (ht:e≠t):b≠B:=fun e1=>by
 obtain ⟨cur,hh⟩:=own_block h hb
 rw [e1,show w.heap[B]?=_ from hB] at hh
 injection hh with hh
 injection hh with _ hh
 exact ht hh.symm
theorem RdK.trans {lo bm bp bt:Nat} {w W W':World} (h:RdK lo bm bp bt w W) (h':RdK lo bm bp bt W W'):RdK lo bm bp bt w W' :=
 ⟨h.bel.trans h'.bel,fun k hk h1 h2 h3=>(h'.blk k (Nat.lt_of_lt_of_le hk h.bel.size) h1 h2 h3).trans (h.blk k hk h1 h2 h3)⟩
theorem BoxA.setAll {W:World} {B:Nat} {t:TypeId} {cs:Array Value} (h:BoxA W B t cs) (vs:List Value) (hl:vs.length=cs.size):BoxA (W.setCells B 0 vs) B t vs.toArray:=by
 obtain ⟨cur,h1,h2,h3⟩:=block_setCells vs 0 W cs h
 have e:cur=vs.toArray:=by
  apply Array.ext_getElem?
  intro j
  by_cases hj:j<cs.size
  ·rw [h3 j hj,if_pos (by omega)];simp
  ·rw [Array.getElem?_eq_none (by omega),Array.getElem?_eq_none (by simp;omega)]
 rw [← e]
 exact h1
theorem p_readA (l:Led) (R:List Rcp) (s:Opn) (i:Nat) (t:Rtn) (x:Lsl) (kn:Int) (RA SA:Option Addr) (Rn Rc Sn Sc bm bp bt Tc Pc lo B:Nat) (w:World) (ht:l.rt[i]?=some t)
 (hN:Rn≤1000000) (hok:∀ r∈R,r.lv.length≤1000000∧(Lit.int .i64 r.src).wf=true∧0≤r.day∧r.day≤1000000) (htn:t.lv.length≤1000000) (htw:∀ x∈t.lv,(Lit.int .i64 x).wf=true)
 (hB:B≤bp∧B≤bt∧B≤w.heap.size) (hlo:lo≤w.heap.size∧lo≤bm∧lo≤bp∧lo≤bt) (hr:Rcs w B RA Rn R) (hT:Rts w B x.tA x.tn l.rt) (hTn:s.T.length=x.tn) (hPn:s.P.length=x.tn) (hx60:x.tn≤1000000)
 (h:RdJ lo bm bp bt s.M s.T s.P w w) :
 Calls Tryz.prog 120 #[accV ⟨x,kn,RA,Rn,Rc,SA,Sn,Sc,bm,some ⟨bt,0,none⟩,x.tn,Tc,some ⟨bp,0,none⟩,x.tn,Pc⟩,.int .i64 i] w (RetRd lo bm bp bt (readS kn R s i t) w):=by
 cases hq:readR kn R s.M t with
 | none=>exact p_read_no l R s i t x kn RA SA Rn Rc Sn Sc bm bp bt Tc Pc lo B w ht hN hok htn htw hB hlo hr hT hTn hPn hx60 h hq
 | some r=>exact p_read_yes l R s i t x kn RA SA Rn Rc Sn Sc bm bp bt Tc Pc lo B w ht hN hok htn htw hB hlo hr hT hTn hPn hx60 h r hq
theorem bodyPost_w {P:Program} {f:Func} {R:Ending→World→Prop} {e:Exit} {a:Act} {W W2:World} (h:W=W2) (hb:bodyPost P f R e a W2):bodyPost P f R e a W:=h ▸ hb
structure OpJ (s:Nat) (LC AC:Array Value) (w W:World):Prop where
 bL:BoxA W s 32 LC
 bZ:BoxA W (s+1) 115 #[.slice none 0 0,.slice none 0 0,.slice none 0 0,.slice none 0 0,.int .i64 0,.slice none 0 0,.slice none 0 0,.map none,.slice none 0 0,.slice none 0 0]
 bA:BoxA W (s+3) 115 AC
 m:MapS W (s+2) []
 k:Below s w W
theorem OpJ.keep {s:Nat} {LC AC:Array Value} {w W W':World} {row:Option Nat} (h:OpJ s LC AC w W) (hg:W.grownBy W' row) (hr:∀ r,row=some r→s+4≤r):OpJ s LC AC w W' :=
 ⟨h.bL.kept hg (fun e=>by have:=hr _ e.symm;omega),h.bZ.kept hg (fun e=>by have:=hr _ e.symm;omega),h.bA.kept hg (fun e=>by have:=hr _ e.symm;omega),h.m.keep (hg.block _ h.m.lt fun e=>by have:=hr _ e.symm;omega),
   h.k.grown hg (Nat.le_of_lt h.bL.lt) fun r e=>by have:=hr _ e;omega⟩
theorem OpJ.setA {s:Nat} {LC AC:Array Value} {w W:World} (h:OpJ s LC AC w W) (j:Nat) (v:Value):OpJ s LC (AC.setIfInBounds j v) w (W.setCell ⟨s+3,j,none⟩ v) :=
 ⟨h.bL.other (show s≠s+3 by omega) _,h.bZ.other (show s+1≠s+3 by omega) _,h.bA.set j v,h.m.setCell (show s+2≠s+3 by omega) _,h.k.setCell (show s≤s+3 by omega) _⟩
theorem OpJ.alloc {s:Nat} {LC AC:Array Value} {w W:World} (h:OpJ s LC AC w W) (o:Obj):OpJ s LC AC w (W.alloc o):=h.keep (World.grownBy_alloc _ _ none) (by simp)
theorem OpJ.new (w:World) (LC AC:Array Value):OpJ w.heap.size LC AC w ((((w.alloc (.cells LC 32)).alloc (.cells #[.slice none 0 0,.slice none 0 0,.slice none 0 0,.slice none 0 0,.int .i64 0,.slice none 0 0,.slice none 0 0,.map none,.slice none 0 0,.slice none 0 0] 115)).alloc (.map #[] 0)).alloc (.cells AC 115)):=by
 refine ⟨(((BoxA.new w _ _).alloc _).alloc _).alloc _,?_,?_,?_,by exact bel_⟩
 ·have h:=((BoxA.new (w.alloc (.cells LC 32)) 115 #[.slice none 0 0,.slice none 0 0,.slice none 0 0,.slice none 0 0,.int .i64 0,.slice none 0 0,.slice none 0 0,.map none,.slice none 0 0,.slice none 0 0]).alloc (.map #[] 0)).alloc (.cells AC 115)
  simpa using h
 ·have h:=BoxA.new (((w.alloc (.cells LC 32)).alloc (.cells #[.slice none 0 0,.slice none 0 0,.slice none 0 0,.slice none 0 0,.int .i64 0,.slice none 0 0,.slice none 0 0,.map none,.slice none 0 0,.slice none 0 0] 115)).alloc (.map #[] 0)) 115 AC
  simpa using h
 ·have h:=(MapG.made (mk:=fun k:Int × Int=>nk k.1 k.2) (wf:=fun k=>wf2 k.1 k.2) ((w.alloc (.cells LC 32)).alloc (.cells #[.slice none 0 0,.slice none 0 0,.slice none 0 0,.slice none 0 0,.int .i64 0,.slice none 0 0,.slice none 0 0,.map none,.slice none 0 0,.slice none 0 0] 115))).alloc (.cells AC 115)
  simpa using h
abbrev sgC (s:Sgt):List Value:=[.int .i64 s.src,.int .i64 s.per,.int .i64 s.pap,.int .i64 s.leaf,.int .i64 s.day,.int .i64 s.kn,.int .i64 s.un]
def cntV (kn:Int) (xs:List Rv):List Rv:=xs.filter fun v=>countsB v.r.kn v.r.un kn
def cntG (kn:Int) (xs:List Sgt):List Sgt:=xs.filter fun v=>countsB v.kn v.un kn
theorem cntV_len (kn:Int) (xs:List Rv) (k:Nat):(cntV kn (xs.take k)).length≤k:=Nat.le_trans (List.length_filter_le _ _) (by rw [List.length_take];omega)
theorem cntG_len (kn:Int) (xs:List Sgt) (k:Nat):(cntG kn (xs.take k)).length≤k:=Nat.le_trans (List.length_filter_le _ _) (by rw [List.length_take];omega)
theorem cntV_succ {kn:Int} {xs:List Rv} {k:Nat} {v:Rv} (h:xs[k]?=some v):cntV kn (xs.take (k+1))=if countsB v.r.kn v.r.un kn=true then cntV kn (xs.take k) ++ [v] else cntV kn (xs.take k):=by
 rw [take_snoc_some h,cntV,List.filter_append]
 split
 ·rename_i h1;simp [cntV,h1]
 ·rename_i h1;simp [cntV,h1]
theorem cntG_succ {kn:Int} {xs:List Sgt} {k:Nat} {v:Sgt} (h:xs[k]?=some v):cntG kn (xs.take (k+1))=if countsB v.kn v.un kn=true then cntG kn (xs.take k) ++ [v] else cntG kn (xs.take k):=by
 rw [take_snoc_some h,cntG,List.filter_append]
 split
 ·rename_i h1;simp [cntG,h1]
 ·rename_i h1;simp [cntG,h1]
theorem cntV_map (kn:Int) (xs:List Rv):(cntV kn xs).map Rv.r=(xs.map Rv.r).filter fun r=>countsB r.kn r.un kn:=by
 rw [cntV,List.filter_map];rfl
theorem infoRcpt2:(Tryz.prog.info? 79).map (fun i=>(i.zero,i.size,i.bytes))=some (some (.agg #[.int .i64 0,.int .i64 0,.int .i64 0,.slice none 0 0,.int .i64 0,.int .i64 0,.int .i64 0]),7,72):=by kernel_rfl
set_option maxRecDepth 100000 in
theorem p_open (l:Led) (x:Lsl) (kn:Int) (w:World) (hlv:LedOk l) (hd:LedIn w w.heap.size x l) :
 Calls Tryz.prog 64 #[.agg #[.slice x.pA x.pn x.pc,.slice x.rA x.rn x.rc,.slice x.tA x.tn x.tc,.slice x.sA x.sn x.sc],.int .i64 kn] w (RetOp l x kn w):=by
 obtain ⟨pA,pn,pc,rA,rn,rc,tA,tn,tc,sA,sn,sc⟩:=x
 obtain ⟨i0,hi0,hz0,hz1,hz2⟩:=info_parts infoRcpt2
 obtain ⟨i1,hi1,hy0,hy1,hy2⟩:=info_parts infoSight
 obtain ⟨xs,hxs,hx⟩:=rvs_of hd.r
 have HXS:=hd_ hxs
 have HX:Hid (Sq QV 7 w w.heap.size rA rn xs):=by show Sq _ _ _ _ _ _ _;exact hx
 have HS:Hid (Sgs w w.heap.size sA sn l.sg):=by show Sq _ _ _ _ _ _ _;exact hd.s
 have HT:Hid (Rts w w.heap.size tA tn l.rt):=by show Sq _ _ _ _ _ _ _;exact hd.t
 have HXL:=hd_ hx.len
 have HSL:Hid (l.sg.length=sn):=by show _=_;exact hd.s.len
 have HTL:Hid (l.rt.length=tn):=by show _=_;exact hd.t.len
 have hrn:rn≤60:=by have h1:=hlv.rn;have h2:l.rc.length=rn:=hd.r.len;omega
 have hsn:sn≤60:=by have h1:=hlv.sn;have h2:l.sg.length=sn:=hd.s.len;omega
 have htn:tn≤60:=by have h1:=hlv.tn;have h2:l.rt.length=tn:=hd.t.len;omega
 have HLV:=hd_ hlv
 have hmm:=@run_makeMap Tryz.prog
 have hmb:=make_bool tn (by omega)
 have hms:=make_span tn (by omega)
 clear hxs hx hd hlv
 show Calls _ _ #[.agg #[.slice pA pn pc,.slice rA rn rc,.slice tA tn tc,.slice sA sn sc],_] _ _
 go_enter Tryz.func64,Tryz.ntmps64
 go_wp2
 go_loopw [18] (fun i wr=>∃ (k:Nat) (A:Option Addr) (c:Nat),k≤rn∧i=.int .i64 k∧OpJ w.heap.size #[.slice pA pn pc,.slice rA rn rc,.slice tA tn tc,.slice sA sn sc] #[.slice pA pn pc,.slice rA rn rc,.slice tA tn tc,.slice sA sn sc,.int .i64 kn,.slice A (cntV kn (xs.take k)).length c,.slice none 0 0,.map (some (w.heap.size+2)),.slice none 0 0,.slice none 0 0] w wr∧wr.ownsRow (w.heap.size+4) 79 7 (.slice A (cntV kn (xs.take k)).length c) (cntV kn (xs.take k)).length (rvCells (cntV kn (xs.take k)))) (fun i _=>rn - (intOf i).toNat)
 case atStart=>exact ⟨0,none,0,by omega,rfl,OpJ.new _ _ _,World.ownsRow_nil _ _ _ _⟩
 case round =>
  obtain ⟨k,A,c,hk,rfl,hJ,hown⟩:=hrel
  obtain ⟨xl,hxl⟩:∃ xl,cntV kn (xs.take k)=xl:=⟨_,rfl⟩
  rw [hxl] at hJ hown
  have hxln:xl.length≤60:=by have:=cntV_len kn xs k;rw [hxl] at this;omega
  have HXE:=hd_ hxl
  have HJ:=hd_ hJ
  have HO:=hd_ hown
  have kL:=hJ.bL.cell
  have kA:=hJ.bA.cell
  have zL:=hJ.bL.lt
  have zA:=hJ.bA.lt
  clear hxl
  by_cases hlt:k<rn
  ·obtain ⟨b,o,v,rfl,hb,hv,⟨v0,v1,v2,v3,v4,v5,v6⟩,hvi⟩:=(HX.out.keep abV fun b o hb=>hJ.k.cell (p:=⟨b,o,none⟩) hb).at_ hlt
   have hbr:b<wr.heap.size:=Nat.lt_of_lt_of_le hb hJ.k.size
   have HV:=hd_ (cntV_succ (kn:=kn) hv)
   clear hv hJ hown hvi
   cases hc:countsB v.r.kn v.r.un kn with
   | false =>
     have HF:Hid (cntV kn (xs.take (k+1))=xl):=by show _=_;rw [HV.out,HXE.out,hc];rfl
     have HC:=hd_ hc
     clear hc
     go_wp2_with (go_at_call 119;refine (p_counts2 _ _ _ false _ HC.out).mono ?_;rintro e w1 ⟨rfl,rfl⟩)
     go_roundw
     case rel=>exact ⟨k+1,A,c,by omega,by go_num,by rw [HF.out];exact HJ.out.alloc _,by rw [HF.out];exact HO.out.alloc _⟩
     case measure=>exact ms_
   | true =>
     have HF:Hid (cntV kn (xs.take (k+1))=xl ++ [v]):=by show _=_;rw [HV.out,HXE.out,hc];rfl
     have HC:=hd_ hc
     clear hc
     have HO4:=hd_ ((HO.out.alloc (.cells (rvC v).toArray 79)).alloc (.cells (rvC v).toArray 79))
     have HJ4:=hd_ ((HJ.out.alloc (.cells (rvC v).toArray 79)).alloc (.cells (rvC v).toArray 79))
     go_wp2_with (first | (go_at_call 119;refine (p_counts2 _ _ _ true _ HC.out).mono ?_;rintro e w1 ⟨rfl,rfl⟩) | (at_builtin;refine wpList_append_own _ rfl (.tmp 29) (.tmp 31) 28 rfl (w.heap.size+4) 79 i0 _ 7 72 Tryz.underlying28 hi0 hz0 hz1 hz2 rfl (by decide) _ _ _ rfl HO4.out ⟨wr.heap.size+1,0,none⟩ 1 1 (rvC v) rfl rfl ?c1 ?c2 ?c3 ?c4 ?c5 ?_;rotate_left 5;intro v' w2 hown2 hgrow2 _;have hJ2:=HJ4.out.keep hgrow2 (fun r e=>own_le HO4.out e);have kA2:=hJ2.bA.cell;have zA2:=hJ2.bA.lt;have fA2:=hJ2.bA.frozen;obtain ⟨A2,c2,rfl,hcc2⟩:=own_slice hown2;have HJ2:=hd_ hJ2;have HO2:=hd_ hown2;have HG2:=hd_ hgrow2;clear hJ2 hown2 hgrow2))
     case c1=>intro j u hj;match j,hj with
      | 0,hj=>simp at hj;subst hj;simp [Addr.add]
      | 1,hj=>simp at hj;subst hj;simp [Addr.add]
      | 2,hj=>simp at hj;subst hj;simp [Addr.add]
      | 3,hj=>simp at hj;subst hj;simp [Addr.add]
      | 4,hj=>simp at hj;subst hj;simp [Addr.add]
      | 5,hj=>simp at hj;subst hj;simp [Addr.add]
      | 6,hj=>simp at hj;subst hj;simp [Addr.add]
      | j+7,hj=>simp at hj
     case c2=>simp [Value.oneCell']
     case c3=>unfold maxLen;omega
     case c4=>omega
     case c5=>simp;omega
     go_roundw
     case rel =>
      refine ⟨k+1,A2,c2,by omega,by go_num,?_,?_⟩
      ·rw [HF.out,List.length_append]
       exact HJ2.out.setA 5 _
      ·rw [HF.out,List.length_append]
       have e1:rvCells (xl ++ [v])=rvCells xl ++ rvC v:=by simp [rvCells]
       rw [e1]
       exact own_keep HO2.out fun b hb=>Below.heap_setCell _ _ _ _ (fun e=>own_box HO2.out hb HJ2.out.bA (by decide) e)
     case measure=>exact ms_
  ·have hkn:Hid (k=rn):=by show _=_;omega
   have HRX:Hid (cntV kn xs=xl):=by show _=_;rw [← HXE.out,hkn.out,List.take_of_length_le (by rw [HXL.out];exact lr_)]
   clear hJ hown
   obtain ⟨w0,hw0⟩:∃ w0,w0=wr:=⟨_,rfl⟩
   subst hw0
   obtain ⟨n1,hn1⟩:∃ n,xl.length=n:=⟨_,rfl⟩
   rw [hn1] at kA hxln
   have HJ0:Hid (OpJ w.heap.size #[.slice pA pn pc,.slice rA rn rc,.slice tA tn tc,.slice sA sn sc] #[.slice pA pn pc,.slice rA rn rc,.slice tA tn tc,.slice sA sn sc,.int .i64 kn,.slice A n1 c,.slice none 0 0,.map (some (w.heap.size+2)),.slice none 0 0,.slice none 0 0] w w0):=by show OpJ _ _ _ _ _;rw [← hn1];exact HJ.out
   have HO0:Hid (w0.ownsRow (w.heap.size+4) 79 7 (.slice A n1 c) n1 (rvCells xl)):=by show _∧_;rw [← hn1];exact HO.out
   have HN1:=hd_ hn1
   have hws:=HJ0.out.k.size
   have hws4:w.heap.size+4≤w0.heap.size:=zA
   clear hn1 HJ HO
   go_wp2
   go_loopw [38] (fun i wr=>∃ (k:Nat) (A':Option Addr) (c':Nat),k≤sn∧i=.int .i64 k∧OpJ w.heap.size #[.slice pA pn pc,.slice rA rn rc,.slice tA tn tc,.slice sA sn sc] #[.slice pA pn pc,.slice rA rn rc,.slice tA tn tc,.slice sA sn sc,.int .i64 kn,.slice A n1 c,.slice A' (cntG kn (l.sg.take k)).length c',.map (some (w.heap.size+2)),.slice none 0 0,.slice none 0 0] w wr∧wr.ownsRow w0.heap.size 70 7 (.slice A' (cntG kn (l.sg.take k)).length c') (cntG kn (l.sg.take k)).length (sgCells (cntG kn (l.sg.take k)))∧w0.heap.size≤wr.heap.size∧∀ j,j<w0.heap.size→j≠w.heap.size+3→wr.heap[j]?=w0.heap[j]?) (fun i _=>sn - (intOf i).toNat)
   case atStart=>exact ⟨0,none,0,by omega,rfl,HJ0.out,World.ownsRow_nil _ _ _ _,lr_,fun _ _ _=>rfl⟩
   case round =>
    obtain ⟨k,A',c',hk,rfl,hJ,hown,hsw,hkp⟩:=hrel
    obtain ⟨xl',hxl'⟩:∃ xl',cntG kn (l.sg.take k)=xl':=⟨_,rfl⟩
    rw [hxl'] at hJ hown
    have HKP:=hd_ hkp
    have hxln:xl'.length≤60:=by have:=cntG_len kn l.sg k;rw [hxl'] at this;omega
    have HXE':=hd_ hxl'
    have HJ':=hd_ hJ
    have HO':=hd_ hown
    have kL:=hJ.bL.cell
    have kA:=hJ.bA.cell
    have zL:=hJ.bL.lt
    have zA:=hJ.bA.lt
    clear hxl'
    by_cases hlt:k<sn
    ·obtain ⟨b,o,v,rfl,hb,hv,v0,v1,v2,v3,v4,v5,v6⟩:=(HS.out.keep abS fun b o hb=>hJ.k.cell (p:=⟨b,o,none⟩) hb).at_ hlt
     have hbr:b<wr.heap.size:=Nat.lt_of_lt_of_le hb hJ.k.size
     have HV:=hd_ (cntG_succ (kn:=kn) hv)
     clear hv hJ hown hkp
     cases hc:countsB v.kn v.un kn with
     | false =>
       have HF:Hid (cntG kn (l.sg.take (k+1))=xl'):=by show _=_;rw [HV.out,HXE'.out,hc];rfl
       have HC:=hd_ hc
       clear hc
       go_wp2_with (go_at_call 119;refine (p_counts2 _ _ _ false _ HC.out).mono ?_;rintro e w1 ⟨rfl,rfl⟩)
       go_roundw
       case rel=>exact ⟨k+1,A',c',by omega,by go_num,by rw [HF.out];exact HJ'.out.alloc _,by rw [HF.out];exact HO'.out.alloc _,by simp;omega,fun j h1 h2=>(Below.heap_alloc _ _ _ (by omega)).trans (HKP.out j h1 h2)⟩
       case measure=>exact ms_
     | true =>
       have HF:Hid (cntG kn (l.sg.take (k+1))=xl' ++ [v]):=by show _=_;rw [HV.out,HXE'.out,hc];rfl
       have HC:=hd_ hc
       clear hc
       have HO4':=hd_ ((HO'.out.alloc (.cells (sgC v).toArray 70)).alloc (.cells (sgC v).toArray 70))
       have HJ4':=hd_ ((HJ'.out.alloc (.cells (sgC v).toArray 70)).alloc (.cells (sgC v).toArray 70))
       go_wp2_with (first | (go_at_call 119;refine (p_counts2 _ _ _ true _ HC.out).mono ?_;rintro e w1 ⟨rfl,rfl⟩) | (at_builtin;refine wpList_append_own _ rfl (.tmp 49) (.tmp 51) 30 rfl w0.heap.size 70 i1 _ 7 56 Tryz.underlying30 hi1 hy0 hy1 hy2 rfl (by decide) _ _ _ rfl HO4'.out ⟨wr.heap.size+1,0,none⟩ 1 1 (sgC v) rfl rfl ?c1 ?c2 ?c3 ?c4 ?c5 ?_;rotate_left 5;intro v' w2 hown2 hgrow2 _;have hJ2:=HJ4'.out.keep hgrow2 (fun r e=>Nat.le_trans hws4 (own_le HO4'.out e));have kA2:=hJ2.bA.cell;have zA2:=hJ2.bA.lt;have fA2:=hJ2.bA.frozen;obtain ⟨A2,c2,rfl,hcc2⟩:=own_slice hown2;have HJ2':=hd_ hJ2;have HO2':=hd_ hown2;have HG2':=hd_ hgrow2;clear hJ2 hown2 hgrow2))
       case c1=>intro j u hj;match j,hj with
        | 0,hj=>simp at hj;subst hj;simp [Addr.add]
        | 1,hj=>simp at hj;subst hj;simp [Addr.add]
        | 2,hj=>simp at hj;subst hj;simp [Addr.add]
        | 3,hj=>simp at hj;subst hj;simp [Addr.add]
        | 4,hj=>simp at hj;subst hj;simp [Addr.add]
        | 5,hj=>simp at hj;subst hj;simp [Addr.add]
        | 6,hj=>simp at hj;subst hj;simp [Addr.add]
        | j+7,hj=>simp at hj
       case c2=>simp [Value.oneCell']
       case c3=>unfold maxLen;omega
       case c4=>omega
       case c5=>simp;omega
       go_roundw
       case rel =>
        refine ⟨k+1,A2,c2,by omega,by go_num,?_,?_,?_,?_⟩
        ·rw [HF.out,List.length_append]
         exact HJ2'.out.setA 6 _
        ·rw [HF.out,List.length_append]
         have e1:sgCells (xl' ++ [v])=sgCells xl' ++ sgC v:=by simp [sgCells]
         rw [e1]
         exact own_keep HO2'.out fun b hb=>Below.heap_setCell _ _ _ _ (fun e=>own_box HO2'.out hb HJ2'.out.bA (by decide) e)
        ·have:=HG2'.out.size
         simp only [World.size_alloc,World.size_setCell] at this ⊢
         omega
        ·intro j h1 h2
         refine (Below.heap_setCell _ _ _ _ (show j≠w.heap.size+3 from h2)).trans ((HG2'.out.block j (by simp;omega) (fun e=>by have:=own_le HO4'.out e.symm;omega)).trans ?_)
         exact (Below.heap_alloc _ _ _ (by simp;omega)).trans ((Below.heap_alloc _ _ _ (by omega)).trans (HKP.out j h1 h2))
       case measure=>exact ms_
    ·have hkn2:Hid (k=sn):=by show _=_;omega
     have HRS:Hid (cntG kn l.sg=xl'):=by show _=_;rw [← HXE'.out,hkn2.out,List.take_of_length_le (by rw [HSL.out];exact lr_)]
     have fA:=HJ'.out.bA.frozen
     have zA1:w.heap.size+3<wr.heap.size+1:=by omega
     have zL1:w.heap.size<wr.heap.size+1:=by omega
     have zA2:w.heap.size+3<wr.heap.size+1+1:=by omega
     have zL2:w.heap.size<wr.heap.size+1+1:=by omega
     clear hJ hown
     have hJw:=HJ'.out
     obtain ⟨n2,hn2⟩:∃ n,xl'.length=n:=⟨_,rfl⟩
     have HN2:=hd_ hn2
     have hOSw:=HO'.out
     rw [hn2] at hOSw hJw kA hxln
     have hORw:wr.ownsRow (w.heap.size+4) 79 7 (.slice A n1 c) n1 (rvCells xl):=own_keep HO0.out fun b hb=>by
      obtain ⟨cur,hh⟩:=own_block HO0.out hb
      exact HKP.out b (block_lt hh) (own_box HO0.out hb HJ0.out.bA (by decide))
     have HJw:=hd_ hJw
     have HORw:=hd_ hORw
     have HOSw:=hd_ hOSw
     clear hn2 HO' HJ' hJw hORw hOSw
     go_wp2
     refine wp_named2 fun a0 V ha0 hV=>?_
     have hJV:OpJ w.heap.size #[.slice pA pn pc,.slice rA rn rc,.slice tA tn tc,.slice sA sn sc] #[.slice pA pn pc,.slice rA rn rc,.slice tA tn tc,.slice sA sn sc,.int .i64 kn,.slice A n1 c,.slice A' n2 c',.map (some (w.heap.size+2)),.slice (some ⟨wr.heap.size,0,none⟩) tn tn,.slice (some ⟨wr.heap.size+1,0,none⟩) tn tn] w V:=by rw [← hV];exact (((HJw.out.setA 8 (.slice (some ⟨wr.heap.size,0,none⟩) tn tn)).setA 9 (.slice (some ⟨wr.heap.size+1,0,none⟩) tn tn)).alloc _).alloc _
     have hbT:BoxA V wr.heap.size 4 (boolL (List.replicate tn false)).toArray:=by
      rw [← hV]
      have h:=(BoxA.new ((wr.setCell ⟨w.heap.size+3,8,none⟩ (.slice (some ⟨wr.heap.size,0,none⟩) tn tn)).setCell ⟨w.heap.size+3,9,none⟩ (.slice (some ⟨wr.heap.size+1,0,none⟩) tn tn)) 4 (boolL (List.replicate tn false)).toArray).alloc (.cells (folCells (List.replicate tn (0,0))).toArray 133)
      simp only [World.size_setCell] at h
      exact h
     have hbP:BoxA V (wr.heap.size+1) 133 (folCells (List.replicate tn (0,0))).toArray:=by
      rw [← hV]
      have h:=BoxA.new (((wr.setCell ⟨w.heap.size+3,8,none⟩ (.slice (some ⟨wr.heap.size,0,none⟩) tn tn)).setCell ⟨w.heap.size+3,9,none⟩ (.slice (some ⟨wr.heap.size+1,0,none⟩) tn tn)).alloc (.cells (boolL (List.replicate tn false)).toArray 4)) 133 (folCells (List.replicate tn (0,0))).toArray
      simp only [World.size_setCell,World.size_alloc] at h
      exact h
     have hkV:∀ b,b<wr.heap.size→b≠w.heap.size+3→V.heap[b]?=wr.heap[b]?:=fun b h1 h2=>by
      rw [← hV]
      exact (Below.heap_alloc _ _ _ (by simp;omega)).trans ((Below.heap_alloc _ _ _ (by simpa using h1)).trans ((Below.heap_setCell _ _ _ _ (show b≠w.heap.size+3 from h2)).trans (Below.heap_setCell _ _ _ _ (show b≠w.heap.size+3 from h2))))
     have hsV:V.heap.size=wr.heap.size+2:=by rw [← hV];simp
     have hORV:V.ownsRow (w.heap.size+4) 79 7 (.slice A n1 c) n1 (rvCells xl):=own_keep HORw.out fun b hb=>by
      obtain ⟨cur,hh⟩:=own_block HORw.out hb
      exact hkV b (block_lt hh) (own_box HORw.out hb HJw.out.bA (by decide))
     have hOSV:V.ownsRow w0.heap.size 70 7 (.slice A' n2 c') n2 (sgCells xl'):=own_keep HOSw.out fun b hb=>by
      obtain ⟨cur,hh⟩:=own_block HOSw.out hb
      exact hkV b (block_lt hh) (own_box HOSw.out hb HJw.out.bA (by decide))
     have hRdw:=Rd.of_own HORw.out
     have hvi:∀ (W:World),Below w.heap.size w W→∀ B,w.heap.size≤B→∀ v∈xl,Is W B v.A v.n v.r.lv∧v.n≤v.c∧v.c≤maxLen:=fun W hW B hB v hv=>by
      rw [← HRX.out] at hv
      have hv2:=(List.mem_filter.1 hv).1
      obtain ⟨k,hk⟩:=List.getElem?_of_mem hv2
      obtain ⟨b,o,y,_,_,hy,hq⟩:=HX.out.at_ (k:=k) (by rw [← HXL.out];exact (List.getElem?_eq_some_iff.1 hk).1)
      obtain rfl:v=y:=Option.some.inj (hk.symm.trans hy)
      exact ⟨Is.more (Is.ext hq.2.1 hW lr_) hB,hq.2.2⟩
     have hmap:xl.map Rv.r=cntR l kn:=by rw [← HRX.out,cntV_map,HXS.out];rfl
     have hsg:xl'=cntS l kn:=by rw [← HRS.out];rfl
     have hbtw:w.heap.size+4≤wr.heap.size:=by omega
     obtain ⟨bt,hbt⟩:∃ bt,wr.heap.size=bt:=⟨_,rfl⟩
     have hRcV:Rcs V bt A n1 (cntR l kn):=by
      rw [← hmap]
      refine Rcs.of_rvs (sq_rv ?_ HN1.out (hvi V hJV.k bt (by omega)))
      have h:=Rd.of_own hORV
      rcases hORV.2 with ⟨h1,h2⟩ | ⟨g,cap,cur,hsl,_,hh,_⟩
      ·cases h1
       exact ⟨h.1,fun h0=>absurd h0 (by omega)⟩
      ·obtain ⟨cur2,hh2⟩:=own_block HORw.out (b:=g) (by rw [hsl];rfl)
       have hlt:=block_lt hh2
       exact ⟨h.1,fun h0=>by
        obtain ⟨b,o,e,hb,hc⟩:=h.2 h0
        refine ⟨b,o,e,?_,hc⟩
        rw [e] at hsl
        injection hsl with e1
        injection e1 with e1
        injection e1 with e1
        omega⟩
     have hRtV:Rts V bt tA tn l.rt:=(Sq.ext HT.out abT hJV.k lr_).more abT (by omega)
     rw [hbt] at hbT hbP hsV hbtw
     have hbA:=hJV.bA
     rw [hbt] at hbA
     subst ha0
     rw [hbt]
     have hJ0:RdJ w.heap.size (w.heap.size+2) (bt+1) bt (opnK kn (cntR l kn) l.rt tn 0).M (opnK kn (cntR l kn) l.rt tn 0).T (opnK kn (cntR l kn) l.rt tn 0).P V V:=⟨hJV.m,hbP,hbT,RdK.refl V⟩
     have HJV:=hd_ hJV
     have HJ0V:=hd_ hJ0
     have HRcV:=hd_ hRcV
     have HRtV:=hd_ hRtV
     have HOR:=hd_ hORV
     have HOS:=hd_ hOSV
     have HBA:=hd_ hbA
     have HVI:=hd_ hvi
     have HMAP:=hd_ hmap
     have HSG:=hd_ hsg
     have hn160:n1≤60:=by have h1:=HN1.out;have h2:=cntV_len kn xs rn;rw [List.take_of_length_le (by rw [HXL.out];exact lr_),HRX.out] at h2;omega
     clear hV hJV hbT hbP hkV hORV hOSV hRdw hvi hRcV hRtV hmap hsg hbA hJ0 HJw HORw HOSw fA kA zA zA1 zA2 zL1 zL2
     go_loopw [68] (fun i wq=>∃ k:Nat,k≤tn∧i=.int .i64 k∧RdJ w.heap.size (w.heap.size+2) (bt+1) bt (opnK kn (cntR l kn) l.rt tn k).M (opnK kn (cntR l kn) l.rt tn k).T (opnK kn (cntR l kn) l.rt tn k).P V wq) (fun i _=>tn - (intOf i).toNat)
     case atStart=>exact ⟨0,by omega,rfl,HJ0V.out⟩
     case round =>
      obtain ⟨k,hk,rfl,hJ⟩:=hrel
      have kE:wr.heap[w.heap.size+3]?=V.heap[w.heap.size+3]?:=hJ.k.blk _ (by omega) (by omega) (by omega) (by omega)
      have kZ:wr.heap[w.heap.size+1]?=V.heap[w.heap.size+1]?:=hJ.k.blk _ (by omega) (by omega) (by omega) (by omega)
      have bAq:BoxA wr (w.heap.size+3) 115 #[.slice pA pn pc,.slice rA rn rc,.slice tA tn tc,.slice sA sn sc,.int .i64 kn,.slice A n1 c,.slice A' n2 c',.map (some (w.heap.size+2)),.slice (some ⟨bt,0,none⟩) tn tn,.slice (some ⟨bt+1,0,none⟩) tn tn]:=kE.trans HBA.out
      have bZq:BoxA wr (w.heap.size+1) 115 #[.slice none 0 0,.slice none 0 0,.slice none 0 0,.slice none 0 0,.int .i64 0,.slice none 0 0,.slice none 0 0,.map none,.slice none 0 0,.slice none 0 0]:=kZ.trans HJV.out.bZ
      have kA:=bAq.cell
      have hsq:=hJ.k.bel.size
      by_cases hlt:k<tn
      ·obtain ⟨t,ht⟩:∃ t,l.rt[k]?=some t:=⟨_,List.getElem?_eq_getElem (by rw [HTL.out];exact hlt)⟩
       have htl:=HLV.out.rt t (List.mem_of_getElem? ht)
       have hol:=opnK_len kn (cntR l kn) l.rt tn k
       have hce:=hJ.cells (M0:=(opnK kn (cntR l kn) l.rt tn 0).M) (B:=bt) HJ0V.out.m ⟨by omega,lr_,by omega⟩
       have hrd:=p_readA l (cntR l kn) (opnK kn (cntR l kn) l.rt tn k) k t ⟨pA,pn,pc,rA,rn,rc,tA,tn,tc,sA,sn,sc⟩ kn A A' n1 c n2 c' (w.heap.size+2) (bt+1) bt tn tn w.heap.size bt wr ht (by omega)
        (fun r hr=>by
          have h:=HLV.out.rc r (List.mem_filter.1 hr).1
          exact ⟨by omega,h.2.1,h.2.2.2.1,by omega⟩)
        (by omega) htl.2 ⟨by omega,lr_,by omega⟩ ⟨by omega,by omega,by omega,by omega⟩ (HRcV.out.keep abR hce) (HRtV.out.keep abT hce) hol.1 hol.2 (by show tn≤_;omega) ⟨hJ.m,hJ.bP,hJ.bT,RdK.refl wr⟩
       rw [← opnK_succ ht] at hrd
       have HRD:=hd_ hrd
       have HJ:=hd_ hJ
       clear hrd hce hol htl ht hJ
       go_wp2_with (go_at_call 120;refine HRD.out.mono ?_;rintro e w5 ⟨⟨v5,rfl⟩,hJ5⟩)
       go_roundw
       case rel=>exact ⟨k+1,by omega,by go_num,hJ5.m,hJ5.bP,hJ5.bT,HJ.out.k.trans hJ5.k⟩
       case measure=>exact ms_
      ·have hkn3:k=tn:=by omega
       rw [hkn3] at hJ
       have hopn:opnK kn (cntR l kn) l.rt tn tn=opnL l kn:=by rw [opnL,HTL.out]
       rw [hopn] at hJ
       have HJ:=hd_ hJ
       have fZ:=bZq.frozen
       have kZc:=bZq.cell
       have zZ:=bZq.lt
       clear hopn hJ kE kZ
       go_wp2
       obtain ⟨W2,hW2⟩:∃ W2,W2=wr.setCells (w.heap.size+1) 0 (#[.slice pA pn pc,.slice rA rn rc,.slice tA tn tc,.slice sA sn sc,.int .i64 kn,.slice A n1 c,.slice A' n2 c',.map (some (w.heap.size+2)),.slice (some ⟨bt,0,none⟩) tn tn,.slice (some ⟨bt+1,0,none⟩) tn tn]).toList:=⟨_,rfl⟩
       have hbx:BoxA W2 (w.heap.size+1) 115 #[.slice pA pn pc,.slice rA rn rc,.slice tA tn tc,.slice sA sn sc,.int .i64 kn,.slice A n1 c,.slice A' n2 c',.map (some (w.heap.size+2)),.slice (some ⟨bt,0,none⟩) tn tn,.slice (some ⟨bt+1,0,none⟩) tn tn]:=by rw [hW2];exact bZq.setAll _ rfl
       have hg2:wr.grownBy W2 (some (w.heap.size+1)):=by rw [hW2];exact grown_setCells _ _ _ _
       have hce:=hbx.cell
       have hB2:Below w.heap.size w W2:=(HJV.out.k.trans HJ.out.k.bel).grown hg2 (by have:=HJV.out.k.size;omega) (fun r e=>by cases e;omega)
       have hblk:∀ b,b<V.heap.size→b≠w.heap.size+2→b≠bt+1→b≠bt→b≠w.heap.size+1→W2.heap[b]?=V.heap[b]?:=fun b h1 h2 h3 h4 h5=>(hg2.block b (by omega) (fun e=>h5 (by injection e))).trans (HJ.out.k.blk b h1 h2 h3 h4)
       have hO2:W2.ownsRow (w.heap.size+4) 79 7 (.slice A n1 c) n1 (rvCells xl):=own_keep HOR.out fun b hb=>by
        obtain ⟨cur,hh⟩:=own_block HOR.out hb
        have h1:=own_le HOR.out hb
        exact hblk b (block_lt hh) (by omega) (own_box HOR.out hb HJ0V.out.bP (by decide)) (own_box HOR.out hb HJ0V.out.bT (by decide)) (by omega)
       have hS2:W2.ownsRow w0.heap.size 70 7 (.slice A' n2 c') n2 (sgCells xl'):=own_keep HOS.out fun b hb=>by
        obtain ⟨cur,hh⟩:=own_block HOS.out hb
        have h1:=own_le HOS.out hb
        exact hblk b (block_lt hh) (by omega) (own_box HOS.out hb HJ0V.out.bP (by decide)) (own_box HOS.out hb HJ0V.out.bT (by decide)) (by omega)
       have hm2:MapS W2 (w.heap.size+2) (encM (opnL l kn).M):=HJ.out.m.keep (hg2.block _ HJ.out.m.lt (fun e=>by injection e with e;omega))
       have hT2:=HJ.out.bT.kept hg2 (fun e=>by injection e with e;omega)
       have hP2:=HJ.out.bP.kept hg2 (fun e=>by injection e with e;omega)
       have hol:=opnK_len kn (cntR l kn) l.rt l.rt.length l.rt.length
       have hcc:n1≤c∧c≤maxLen:=by obtain ⟨A9,c9,e9,h9⟩:=own_slice HOR.out;injection e9 with _ _ e9;rw [e9];exact h9
       have hcs:n2≤c'∧c'≤maxLen:=by obtain ⟨A9,c9,e9,h9⟩:=own_slice HOS.out;injection e9 with _ _ e9;rw [e9];exact h9
       have hacc:AccR W2 ⟨⟨pA,pn,pc,rA,rn,rc,tA,tn,tc,sA,sn,sc⟩,kn,A,n1,c,A',n2,c',w.heap.size+2,some ⟨bt,0,none⟩,tn,tn,some ⟨bt+1,0,none⟩,tn,tn⟩ (opnL l kn).M (cntR l kn) (opnL l kn).P :=
        ⟨hm2,by rw [← HMAP.out];exact Rcs.of_rvs (sq_rv (Rd.of_own hO2) HN1.out (HVI.out W2 hB2 _ hB2.size)),hP2.sqF (hol.2.trans HTL.out) hP2.lt,by show n1≤_;omega,hcc,
          fun r hr=>by have h:=HLV.out.rc r (List.mem_filter.1 hr).1;exact ⟨by omega,h.2.1,h.2.2.1⟩,by show tn≤_;omega,(fun h=>by cases h),(fun k i h=>by show i<tn;rw [← HTL.out];exact opnK_M _ _ _ _ _ _ _ h)⟩
       have HW2:=hd_ hW2
       clear hW2
       refine bodyPost_w (W2:=W2) (by rw [HW2.out];rfl) ?_
       refine bodyPost_ret (v:=accV ⟨⟨pA,pn,pc,rA,rn,rc,tA,tn,tc,sA,sn,sc⟩,kn,A,n1,c,A',n2,c',w.heap.size+2,some ⟨bt,0,none⟩,tn,tn,some ⟨bt+1,0,none⟩,tn,tn⟩) ?_ rfl ?_
       ·(simp [results,Tryz.f64,go_sem];try go_simp)
       ·exact ⟨_,rfl,hB2,rfl,rfl,hacc,by rw [← HSG.out];exact sq_sg (Rd.of_own hS2) HN2.out,hT2.sqT (hol.1.trans HTL.out) hT2.lt,rfl,rfl,hxln,hcs⟩
theorem grown_wk {W W':World} (h:W.grownBy W' none) (row:Option Nat):W.grownBy W' row:=⟨h.os,h.tape,h.output,h.size,fun k hk _=>h.block k hk (by simp)⟩
theorem zero_one {z:Array Value} (hz:0<z.size) (h1:∀ u∈z.toList,u.oneCell'=true) (n:Nat):∀ v∈(Builtin.zeroCells z n).toList,v.oneCell'=true:=by
 intro v hv
 simp only [Builtin.zeroCells,Array.toList_map,List.mem_map] at hv
 obtain ⟨i,_,rfl⟩:=hv
 have hlt:i % z.size<z.size:=Nat.mod_lt _ hz
 rw [getElem!_pos z _ hlt]
 exact h1 _ (by simp)
theorem zero_len (z:Array Value) (n:Nat):(Builtin.zeroCells z n).toList.length=n*z.size:=by simp [Builtin.zeroCells]
theorem run_clear_k {P:Program} (w:World) (t e ty:TypeId) (z:Value) (ht:P.underlying t=some (.slice e)) (hv:∀ w,(zeroValue e).run P w=.ok z w) (hz:0<z.cells.size) (h1:∀ u∈z.cells.toList,u.oneCell'=true) (b o n c:Nat) (hn:0<n)
 (hc:∀ j,j<n*z.cells.size→(w.cell? ⟨b,o+j,none⟩).isSome=true) (hf:∀ j,j<n*z.cells.size→w.frozen? ⟨b,o+j,none⟩=false) :
 (Builtin.clear_ #[t] ty #[.slice (some ⟨b,o,none⟩) n c]).run P w=.ok (.tuple #[]) (w.setCells b o (Builtin.zeroCells z.cells n).toList):=by
 have hst:=run_storeCells_cells (P:=P) b o (Builtin.zeroCells z.cells n).toList 0 w (by rw [zero_len];simpa using hc) (by rw [zero_len];simpa using hf) (zero_one hz h1 n)
 simp only [Nat.add_zero] at hst
 obtain ⟨m,rfl⟩:∃ m,n=m+1:=⟨n - 1,by omega⟩
 simp [Builtin.clear_,run_underlying ht,hv,hst]
structure DelC {α:Type} (f:α→List Value) (s:Nat) (xs:List α) (kp:α→Bool) (cur0:Array Value) (i j:Nat) (cur:Array Value):Prop where
 size:cur.size=cur0.size
 cnt:((xs.take j).filter kp).length=i
 low:∀ m,m<i*s→cur[m]?=(((xs.take j).filter kp).flatMap f)[m]?
 high:∀ m,j*s≤m→m<xs.length*s→cur[m]?=(xs.flatMap f)[m]?
theorem DelC.skip {α:Type} {f:α→List Value} {s:Nat} {xs:List α} {kp:α→Bool} {cur0 cur:Array Value} {i j:Nat} {x:α} (h:DelC f s xs kp cur0 i j cur) (hx:xs[j]?=some x) (hk:kp x=false):DelC f s xs kp cur0 i (j+1) cur:=by
 have e:(xs.take (j+1)).filter kp=(xs.take j).filter kp:=by rw [take_snoc_some hx,List.filter_append];simp [hk]
 exact ⟨h.size,by rw [e];exact h.cnt,by rw [e];exact h.low,fun m h1 h2=>h.high m (Nat.le_trans (Nat.mul_le_mul_right s (Nat.le_succ j)) h1) h2⟩
theorem DelC.take {α:Type} {f:α→List Value} {s:Nat} (hs:∀ x,(f x).length=s) {xs:List α} {kp:α→Bool} {cur0 cur cur':Array Value} {i j:Nat} {x:α} (h:DelC f s xs kp cur0 i j cur) (hij:i≤j) (hx:xs[j]?=some x) (hk:kp x=true)
 (hz:cur'.size=cur.size) (hc:∀ m,m<cur.size→cur'[m]?=if i*s≤m∧m<i*s+(f x).length then (f x)[m - i*s]? else cur[m]?) (hn:xs.length*s≤cur0.size):DelC f s xs kp cur0 (i+1) (j+1) cur':=by
 have hj:j<xs.length:=(List.getElem?_eq_some_iff.1 hx).1
 have e:(xs.take (j+1)).filter kp=(xs.take j).filter kp ++ [x]:=by rw [take_snoc_some hx,List.filter_append];simp [hk]
 have hjs:(j+1)*s≤xs.length*s:=Nat.mul_le_mul_right s hj
 have his:i*s≤j*s:=Nat.mul_le_mul_right s hij
 have e1:(j+1)*s=j*s+s:=Nat.succ_mul j s
 have e2:(i+1)*s=i*s+s:=Nat.succ_mul i s
 have hfl:=flat_len f s hs ((xs.take j).filter kp)
 rw [h.cnt] at hfl
 refine ⟨hz.trans h.size,by rw [e,List.length_append,h.cnt];rfl,fun m hm=>?_,fun m h1 h2=>?_⟩
 ·have hmc:m<cur.size:=by rw [h.size];omega
  rw [hc m hmc,hs x,e,List.flatMap_append]
  by_cases h3:m<i*s
  ·rw [if_neg (by omega),List.getElem?_append_left (by omega)]
   exact h.low m h3
  ·rw [if_pos (by omega),List.getElem?_append_right (by omega),hfl]
   simp
 ·have hmc:m<cur.size:=by rw [h.size];omega
  rw [hc m hmc,hs x,if_neg (by omega)]
  exact h.high m (by omega) h2
theorem DelC.start {α:Type} {f:α→List Value} {s:Nat} (hs:∀ x,(f x).length=s) {xs:List α} {p:α→Bool} {cur0:Array Value} {k:Nat} (hk:xs.findIdx? p=some k) (hc:∀ m,m<xs.length*s→cur0[m]?=(xs.flatMap f)[m]?):DelC f s xs (fun x=>!p x) cur0 k (k+1) cur0:=by
 rw [List.findIdx?_eq_some_iff_getElem] at hk
 obtain ⟨hlt,hp,hall⟩:=hk
 have hx:xs[k]?=some xs[k]:=List.getElem?_eq_getElem hlt
 have e0:(xs.take k).filter (fun x=>!p x)=xs.take k:=by
  rw [List.filter_eq_self]
  intro a ha
  rw [List.mem_take_iff_getElem] at ha
  obtain ⟨j,hj,rfl⟩:=ha
  have:=hall j (by omega)
  simpa using this
 have e:(xs.take (k+1)).filter (fun x=>!p x)=xs.take k:=by rw [take_snoc_some hx,List.filter_append,e0];simp [hp]
 refine ⟨rfl,by rw [e,List.length_take];omega,fun m hm=>?_,fun m _ h2=>hc m h2⟩
 have hks:k*s≤xs.length*s:=Nat.mul_le_mul_right s (Nat.le_of_lt hlt)
 rw [e,hc m (by omega)]
 conv=>lhs;rw [← List.take_append_drop k xs,List.flatMap_append]
 have hfl:=flat_len f s hs (xs.take k)
 rw [List.length_take,Nat.min_eq_left (Nat.le_of_lt hlt)] at hfl
 rw [List.getElem?_append_left (by omega)]
theorem find_filter {α:Type} {xs:List α} {p:α→Bool} (h:xs.findIdx? p=none):xs.filter (fun x=>!p x)=xs:=by
 rw [List.findIdx?_eq_none_iff] at h
 rw [List.filter_eq_self]
 intro a ha
 simp [h a ha]
theorem own_of_getK {w:World} {base g cap n s:Nat} {e:TypeId} {cur:Array Value} {xs:List Value} (hb:base≤g) (hh:w.heap[g]?=some (.cells cur e (0,0))) (hn:n≤cap) (hm:cap≤maxLen) (hs:cap*s=cur.size) (hl:xs.length=n*s)
 (hx:∀ j,j<n*s→cur[j]?=xs[j]?):w.ownsRow base e s (.slice (some ⟨g,0,none⟩) n cap) n xs:=by
 refine ⟨by omega,.inr ⟨g,cap,cur,rfl,hb,hh,hn,hm,by omega,?_⟩⟩
 apply List.ext_getElem?
 intro j
 rw [List.getElem?_take]
 by_cases hj:j<n*s
 ·rw [if_pos hj,Array.getElem?_toList,hx j hj]
 ·rw [if_neg hj,List.getElem?_eq_none (by omega)]
def RetDel (t:TypeId) (s:Nat) (base:Nat) (v:Value) (n:Nat) (cs:List Value) (w:World) (e:Ending) (w':World):Prop:=∃ v',e=.returned v'∧w'.ownsRow base t s v' n cs∧w.grownBy w' v.ownBlock∧(v'.ownBlock=v.ownBlock)
abbrev foC (f:Int × Int):List Value:=[.int .i64 f.1,.int .i64 f.2]
structure Tv where
 r:Rtn
 A:Option Addr
 (n c:Nat)
abbrev tvC (v:Tv):List Value:=[.int .i64 v.r.src,.int .i64 v.r.rcp,.int .i64 v.r.per,.slice v.A v.n v.c,.int .i64 v.r.lo,.int .i64 v.r.hi,.int .i64 v.r.kn,.int .i64 v.r.un]
theorem at_Rcp {w wr:World} {B n:Nat} {A:Option Addr} {xs:List (Rv)} (h:Rd w B 7 A n (xs.flatMap rvC)) (hn:xs.length=n) (hb:Below w.heap.size w wr) (hB:B≤w.heap.size) {k:Nat} (hk:k<n) :
 ∃ b o x,A=some ⟨b,o,none⟩∧b<B∧xs[k]?=some x∧wr.cell? ⟨b,o+k*7,none⟩=some (.int .i64 x.r.src)∧wr.cell? ⟨b,o+k*7+1,none⟩=some (.int .i64 x.r.bor)∧wr.cell? ⟨b,o+k*7+2,none⟩=some (.int .i64 x.r.pap)∧wr.cell? ⟨b,o+k*7+3,none⟩=some (.slice x.A x.n x.c)∧wr.cell? ⟨b,o+k*7+4,none⟩=some (.int .i64 x.r.day)∧wr.cell? ⟨b,o+k*7+5,none⟩=some (.int .i64 x.r.kn)∧wr.cell? ⟨b,o+k*7+6,none⟩=some (.int .i64 x.r.un):=by
 obtain ⟨b,o,e,hbB,hc⟩:=h.2 (by omega)
 obtain ⟨x,hx⟩:∃ x,xs[k]?=some x:=⟨_,List.getElem?_eq_getElem (by omega)⟩
 have g:∀ j u,j<7→(rvC x)[j]?=some u→wr.cell? ⟨b,o+k*7+j,none⟩=some u:=fun j u hj hu=>by
  have:=hc (k*7+j) u (by rw [← hu];exact flat_get rvC 7 (fun _=>rfl) xs k j x hx hj)
  rw [← Nat.add_assoc] at this
  exact (hb.cell (p:=⟨b,_,none⟩) (show b<w.heap.size by omega)).trans this
 exact ⟨b,o,x,e,hbB,hx,g 0 _ (by omega) rfl,g 1 _ (by omega) rfl,g 2 _ (by omega) rfl,g 3 _ (by omega) rfl,g 4 _ (by omega) rfl,g 5 _ (by omega) rfl,g 6 _ (by omega) rfl⟩
set_option maxRecDepth 10000 in
theorem l_ixRcp (xs:List (Rv)) (p:Rv→Bool) (q0:Nat) (A:Option Addr) (n c:Nat) (w:World) (hn:n≤1000000) (hxn:xs.length=n) (h:Rd w w.heap.size 7 A n (xs.flatMap rvC))
 (hp:∀ W,Below w.heap.size w W→∀ x∈xs,Calls Tryz.prog 138 #[.agg (rvC x).toArray,.pointer (some ⟨q0,0,none⟩)] W fun e w'=>e=.returned (.bool (p x))∧Below W.heap.size W w') :
 Calls Tryz.prog 158 #[.slice A n c,.func (.func 138) #[] #[.pointer (some ⟨q0,0,none⟩)]] w fun e w'=>e=.returned (.int .i64 (ixI (xs.findIdx? p)))∧Below w.heap.size w w':=by
 have HD:=hd_ h
 have HP:=hd_ hp
 have HXN:=hd_ hxn
 obtain ⟨q,hq⟩:∃ q,xs.findIdx? p=q:=⟨_,rfl⟩
 rw [hq]
 have HQ:=hd_ hq
 clear h hp hq hxn
 go_enter Tryz.func158,Tryz.ntmps158
 go_wp2
 go_loopw [8] (fun i wr=>∃ k:Nat,k≤n∧i=.int .i64 k∧(xs.take k).any p=false∧Below w.heap.size w wr) (fun i _=>n - (intOf i).toNat)
 case atStart=>exact ⟨0,by omega,rfl,rfl,Below.refl _ _⟩
 case round =>
  obtain ⟨k,hk,rfl,hany,hB⟩:=hrel
  have HA:=hd_ hany
  clear hany
  have hs0:w.heap.size≤wr.heap.size:=hB.size
  by_cases hlt:k<n
  ·obtain ⟨b,o,x,rfl,hb,hx,a0,a1,a2,a3,a4,a5,a6⟩:=at_Rcp HD.out HXN.out hB lr_ hlt
   have hbr:b<wr.heap.size:=by omega
   have HX:=hd_ hx
   have hcall:=HP.out wr hB x (List.mem_of_getElem? hx)
   clear hx
   cases hpx:p x with
   | true =>
     rw [hpx] at hcall
     have ho:q=some k:=by rw [← HQ.out];exact ix_found HX.out hpx HA.out
     subst ho
     clear hpx
     go_wp2_with (go_at_call 138;refine hcall.mono ?_;rintro e w1 ⟨rfl,hb1⟩)
     go_ret
     exact ⟨rfl,bt_ hB hb1⟩
   | false =>
     rw [hpx] at hcall
     have HF:Hid ((xs.take (k+1)).any p=false):=by show _=_;rw [any_take_succ2 HX.out,HA.out,hpx];rfl
     clear hpx
     go_wp2_with (go_at_call 138;refine hcall.mono ?_;rintro e w1 ⟨rfl,hb1⟩)
     go_roundw
     case rel=>exact ⟨k+1,by omega,by go_num,HF.out,bt_ hB hb1⟩
     case measure=>exact ms_
  ·have hkn:Hid (k=n):=by show _=_;omega
   have ho:q=none:=by
    have:=HA.out
    rw [List.take_of_length_le (by rw [HXN.out,hkn.out];exact lr_)] at this
    rw [← HQ.out]
    exact ix_none this
   subst ho
   go_wp2
   go_ret
   exact ⟨rfl,hB⟩
set_option maxRecDepth 10000 in
theorem l_deleteRcp (xs:List (Rv)) (p:Rv→Bool) (q0 base:Nat) (v:Value) (n:Nat) (w:World) (hn:n≤1000000) (hxn:xs.length=n) (ho:w.ownsRow base 79 7 v n (xs.flatMap rvC)) (hbase:base≤w.heap.size)
 (hp:∀ W,w.grownBy W v.ownBlock→∀ x∈xs,Calls Tryz.prog 138 #[.agg (rvC x).toArray,.pointer (some ⟨q0,0,none⟩)] W fun e w'=>e=.returned (.bool (p x))∧Below W.heap.size W w') :
 Calls Tryz.prog 137 #[v,.func (.func 138) #[] #[.pointer (some ⟨q0,0,none⟩)]] w (RetDel 79 7 base v (xs.filter fun x=>!p x).length ((xs.filter fun x=>!p x).flatMap rvC) w):=by
 obtain ⟨A,c,rfl,hcc⟩:=own_slice ho
 have hIF:=l_ixRcp xs p q0 A n c w hn hxn (Rd.of_own ho) (fun W hW=>hp W (grown_wk (grown_of_below hW) _))
 cases hf:xs.findIdx? p with
 | none =>
   rw [hf] at hIF
   have hfl:=find_filter hf
   rw [hfl,hxn]
   have HO:=hd_ ho
   clear hf hfl hp ho
   go_enter Tryz.func137,Tryz.ntmps137
   go_wp2_with (go_at_call 158;refine hIF.mono ?_;rintro e w1 ⟨rfl,hb1⟩)
   go_ret
   exact ⟨_,rfl,own_ex HO.out hb1,grown_wk (grown_of_below hb1) _,rfl⟩
 | some k0 =>
   rw [hf] at hIF
   simp only [ixI] at hIF
   have hk0:k0<n:=by rw [← hxn];exact (List.findIdx?_eq_some_iff_getElem.1 hf).1
   have hne:((k0:Int) == -1)=false:=beq_eq_false_iff_ne.2 (by omega)
   rcases ho.2 with ⟨_,h0⟩ | ⟨g,cap,cur0,hv,hbg,hh0,hnc,hcm,hsz,htk⟩
   ·omega
   obtain ⟨rfl,rfl⟩:A=some ⟨g,0,none⟩∧c=cap:=by injection hv with e1 _ e3;exact ⟨e1,e3⟩
   clear hv
   have HZ:=hd_ hsz
   have hns:n*7≤cur0.size:=by have:=Nat.mul_le_mul_right 7 hnc;omega
   have hcell:∀ m,m<xs.length*7→cur0[m]?=(xs.flatMap rvC)[m]?:=fun m hm=>by
    rw [← htk,List.getElem?_take,if_pos (by rw [← hxn];exact hm),Array.getElem?_toList]
   have HST:=hd_ (DelC.start (f:=rvC) (s:=7) (fun _=>rfl) hf hcell)
   have HP:Hid (∀ W,w.grownBy W (some g)→∀ x∈xs,Calls Tryz.prog 138 #[.agg (rvC x).toArray,.pointer (some ⟨q0,0,none⟩)] W fun e w'=>e=.returned (.bool (p x))∧Below W.heap.size W w'):=by show ∀ _,_;exact hp
   have HXN:=hd_ hxn
   have HH0:=hd_ hh0
   have hgs:g<w.heap.size:=block_lt hh0
   have hzc:∀ w,(zeroValue 79).run Tryz.prog w=.ok (.agg #[.int .i64 0,.int .i64 0,.int .i64 0,.slice none 0 0,.int .i64 0,.int .i64 0,.int .i64 0]) w:=fun w=>by kernel_rfl
   clear hp hf htk hsz hcell hh0 ho
   go_enter Tryz.func137,Tryz.ntmps137
   go_wp2_with (go_at_call 158;refine hIF.mono ?_;rintro e w1 ⟨rfl,hb1⟩)
   go_loopw [5,6] (fun si sj wr=>∃ (i j:Nat) (cur:Array Value),i<j∧j≤n∧si=.int .i64 i∧sj=.int .i64 j∧wr.heap[g]?=some (.cells cur 79 (0,0))∧DelC rvC 7 xs (fun x=>!p x) cur0 i j cur∧w.grownBy wr (some g)) (fun _ sj _=>n - (intOf sj).toNat)
   case atStart=>exact ⟨k0,k0+1,cur0,by omega,by omega,rfl,by go_num,(hb1.block g hgs).trans HH0.out,HST.out,grown_wk (grown_of_below hb1) _⟩
   case round =>
    obtain ⟨i,j,cur,hij,hjn,rfl,rfl,hh,hD,hG⟩:=hrel
    have hce:∀ m,wr.cell? ⟨g,m,none⟩=cur[m]?:=fun m=>by simp [World.cell?,hh]
    have hfz:∀ m,wr.frozen? ⟨g,m,none⟩=false:=fun m=>by simp [World.frozen?,hh]
    have hgr:g<wr.heap.size:=block_lt hh
    have HH:=hd_ hh
    have HD:=hd_ hD
    have HG:=hd_ hG
    have hcs:cur.size=cur0.size:=hD.size
    by_cases hlt:j<n
    ·obtain ⟨x,hx⟩:∃ x,xs[j]?=some x:=⟨_,List.getElem?_eq_getElem (by rw [HXN.out];exact hlt)⟩
     have HX:=hd_ hx
     have hjs:(j+1)*7≤n*7:=Nat.mul_le_mul_right 7 hlt
     have gx:∀ m u,m<7→(rvC x)[m]?=some u→wr.cell? ⟨g,j*7+m,none⟩=some u:=fun m u hm hu=>by
      rw [hce,HD.out.high _ (by omega) (by rw [HXN.out];omega),← hu]
      exact flat_get rvC 7 (fun _=>rfl) xs j m x HX.out hm
     have a0:=gx 0 _ (by omega) rfl;have a1:=gx 1 _ (by omega) rfl;have a2:=gx 2 _ (by omega) rfl;have a3:=gx 3 _ (by omega) rfl;have a4:=gx 4 _ (by omega) rfl;have a5:=gx 5 _ (by omega) rfl;have a6:=gx 6 _ (by omega) rfl
     have gi:∀ m,m<7→∃ u,wr.cell? ⟨g,i*7+m,none⟩=some u:=fun m hm=>by
      rw [hce]
      exact ⟨_,Array.getElem?_eq_getElem (show i*7+m<cur.size by have:(i+1)*7≤j*7:=Nat.mul_le_mul_right 7 hij;omega)⟩
     obtain ⟨u0,b0⟩:=gi 0 (by omega);obtain ⟨u1,b1⟩:=gi 1 (by omega);obtain ⟨u2,b2⟩:=gi 2 (by omega);obtain ⟨u3,b3⟩:=gi 3 (by omega);obtain ⟨u4,b4⟩:=gi 4 (by omega);obtain ⟨u5,b5⟩:=gi 5 (by omega);obtain ⟨u6,b6⟩:=gi 6 (by omega)
     simp only [Nat.add_zero] at a0 b0
     have hcall:=HP.out (wr.alloc (.cells (rvC x).toArray 79)) (HG.out.trans (grown_alloc wr _ (some g))) x (List.mem_of_getElem? hx)
     clear hx gx gi hh hD hG hce
     cases hpx:p x with
     | true =>
       rw [hpx] at hcall
       have HDS:=hd_ (HD.out.skip HX.out (show (fun x=>!p x) x=false by simp [hpx]))
       clear hpx
       go_wp2_with (go_at_call 138;refine hcall.mono ?_;rintro e w2 ⟨rfl,hb2⟩)
       go_roundw
       case rel =>
        exact ⟨i,j+1,cur,by omega,by omega,rfl,by go_num,(hb2.block g (by simp;omega)).trans ((Below.heap_alloc _ _ _ hgr).trans HH.out),HDS.out,(HG.out.trans (grown_alloc wr _ (some g))).trans (grown_wk (grown_of_below hb2) _)⟩
       case measure=>exact ms_
     | false =>
       rw [hpx] at hcall
       have HKP:=hd_ hpx
       clear hpx
       have hall:∀ w2,Below (wr.alloc (.cells (rvC x).toArray 79)).heap.size (wr.alloc (.cells (rvC x).toArray 79)) w2→w2.heap[g]?=some (.cells cur 79 (0,0))∧w.grownBy w2 (some g)∧BoxA w2 wr.heap.size 79 (rvC x).toArray∧w2.cell? ⟨g,i*7,none⟩=some u0∧w2.cell? ⟨g,i*7+1,none⟩=some u1∧w2.cell? ⟨g,i*7+2,none⟩=some u2∧w2.cell? ⟨g,i*7+3,none⟩=some u3∧w2.cell? ⟨g,i*7+4,none⟩=some u4∧w2.cell? ⟨g,i*7+5,none⟩=some u5∧w2.cell? ⟨g,i*7+6,none⟩=some u6:=fun w2 hb2=>by
        have hge:g<(wr.alloc (.cells (rvC x).toArray 79)).heap.size:=by simp;omega
        exact ⟨(hb2.block g hge).trans ((Below.heap_alloc _ _ _ hgr).trans HH.out),(HG.out.trans (grown_alloc wr (.cells (rvC x).toArray 79) (some g))).trans (grown_wk (grown_of_below hb2) (some g)),(BoxA.new wr 79 (rvC x).toArray).ext hb2,(hb2.cell (p:=⟨g,_,none⟩) hge).trans ((((Below.refl wr.heap.size wr).alloc lr_ (.cells (rvC x).toArray 79)).cell (p:=⟨g,_,none⟩) hgr).trans b0),(hb2.cell (p:=⟨g,_,none⟩) hge).trans ((((Below.refl wr.heap.size wr).alloc lr_ (.cells (rvC x).toArray 79)).cell (p:=⟨g,_,none⟩) hgr).trans b1),(hb2.cell (p:=⟨g,_,none⟩) hge).trans ((((Below.refl wr.heap.size wr).alloc lr_ (.cells (rvC x).toArray 79)).cell (p:=⟨g,_,none⟩) hgr).trans b2),(hb2.cell (p:=⟨g,_,none⟩) hge).trans ((((Below.refl wr.heap.size wr).alloc lr_ (.cells (rvC x).toArray 79)).cell (p:=⟨g,_,none⟩) hgr).trans b3),(hb2.cell (p:=⟨g,_,none⟩) hge).trans ((((Below.refl wr.heap.size wr).alloc lr_ (.cells (rvC x).toArray 79)).cell (p:=⟨g,_,none⟩) hgr).trans b4),(hb2.cell (p:=⟨g,_,none⟩) hge).trans ((((Below.refl wr.heap.size wr).alloc lr_ (.cells (rvC x).toArray 79)).cell (p:=⟨g,_,none⟩) hgr).trans b5),(hb2.cell (p:=⟨g,_,none⟩) hge).trans ((((Below.refl wr.heap.size wr).alloc lr_ (.cells (rvC x).toArray 79)).cell (p:=⟨g,_,none⟩) hgr).trans b6)⟩
       have HALL:=hd_ hall
       clear hall
       go_wp2_with (go_at_call 138;refine hcall.mono ?_;rintro e w2 ⟨rfl,hb2⟩;obtain ⟨hh2,hG2,bV,c0,c1,c2,c3,c4,c5,c6⟩:=HALL.out w2 hb2;have kV:=bV.cell;have zV:=bV.lt;have fz2:∀ m,w2.frozen? ⟨g,m,none⟩=false:=(fun m=>by simp [World.frozen?,hh2]);have HH2:=hd_ hh2;have HG2:=hd_ hG2;clear hh2 hG2)
       go_roundw
       case rel =>
        obtain ⟨cur',h1,h2,h3⟩:=block_setCells (rvC x) (i*7) w2 cur HH2.out
        exact ⟨i+1,j+1,cur',by omega,by omega,by go_num,by go_num,h1,DelC.take (f:=rvC) (s:=7) (fun _=>rfl) HD.out (by omega) HX.out (by simp [HKP.out]) h2 h3 (by rw [HXN.out];exact hns),HG2.out.trans (grown_setCells g (rvC x) (i*7) w2)⟩
       case measure=>exact ms_
    ·have hjn2:j=n:=by omega
     subst hjn2
     have hcz:(.agg #[.int .i64 0,.int .i64 0,.int .i64 0,.slice none 0 0,.int .i64 0,.int .i64 0,.int .i64 0]:Value).cells.size=7:=rfl
     have hZ:=HZ.out
     have hij2:i*7+(j - i)*7=j*7:=by omega
     have hcl:∀ ty,(Builtin.clear_ #[28] ty #[.slice (some ⟨g,i*7,none⟩) (j - i) (c - i)]).run Tryz.prog wr=.ok (.tuple #[]) (wr.setCells g (i*7) (Builtin.zeroCells (.agg #[.int .i64 0,.int .i64 0,.int .i64 0,.slice none 0 0,.int .i64 0,.int .i64 0,.int .i64 0]:Value).cells (j - i)).toList):=fun ty =>
      run_clear_k wr 28 79 ty _ Tryz.underlying28 hzc (by decide) (by simp [Value.cells,Value.oneCell']) g (i*7) (j - i) (c - i) (by omega)
       (fun m hm=>by rw [hcz] at hm;rw [hce,Array.getElem?_eq_getElem (show i*7+m<cur.size by omega)];rfl) (fun m hm=>hfz _)
     obtain ⟨cur',h1,h2,h3⟩:=block_setCells (Builtin.zeroCells (.agg #[.int .i64 0,.int .i64 0,.int .i64 0,.slice none 0 0,.int .i64 0,.int .i64 0,.int .i64 0]:Value).cells (j - i)).toList (i*7) wr cur HH.out
     have hfin:xs.take j=xs:=List.take_of_length_le (by rw [HXN.out];exact lr_)
     have hlow:=HD.out.low
     have hcnt:=HD.out.cnt
     rw [hfin] at hlow hcnt
     have hown:=own_of_getK (w:=wr.setCells g (i*7) (Builtin.zeroCells (.agg #[.int .i64 0,.int .i64 0,.int .i64 0,.slice none 0 0,.int .i64 0,.int .i64 0,.int .i64 0]:Value).cells (j - i)).toList) (base:=base) (g:=g) (cap:=c) (n:=i) (s:=7) (e:=79) (cur:=cur') (xs:=(xs.filter fun x=>!p x).flatMap rvC) hbg h1 (by omega) hcm (by omega) (by rw [flat_len rvC 7 (fun _=>rfl),hcnt]) (fun m hm=>by
      rw [h3 m (by omega),if_neg (by omega)]
      exact hlow m hm)
     have HOW:=hd_ hown
     have HCN:=hd_ hcnt
     clear h1 h2 h3 hfin hlow hcnt hown hce hcz hij2
     go_wp2
     go_ret
     refine ⟨_,rfl,?_,HG.out.trans (grown_setCells g _ (i*7) wr),rfl⟩
     rw [HCN.out]
     exact HOW.out
end Go.Proofs.YtmcmbicapdcfmaaGreat
