/- Layer 2 of the texts that the statements over histories take: Pauq. -/
import Derived.Test.YtmcmbicapdcfmaaGreatParq
set_option linter.unusedVariables false
set_option linter.unusedSimpArgs false
set_option maxHeartbeats 16000000
namespace Go.Proofs.YtmcmbicapdcfmaaGreat
open Go.RowKit Go.Maps
def sgCells (S:List Sgt):List Value:=S.flatMap fun s=>[.int .i64 s.src,.int .i64 s.per,.int .i64 s.pap,.int .i64 s.leaf,.int .i64 s.day,.int .i64 s.kn,.int .i64 s.un]
def findStep (bys:List Int) (f:List Sgt) (s:Sgt):List Sgt:=if bys[f.length]?=some s.src then f ++ [s] else f
def findS (bys:List Int) (S:List Sgt):List Sgt:=S.foldl (findStep bys) []
theorem findS_succ {bys:List Int} {S:List Sgt} {k:Nat} {s:Sgt} (h:S[k]?=some s):findS bys (S.take (k+1))=findStep bys (findS bys (S.take k)) s:=by
 rw [take_snoc_some h,findS,List.foldl_append];rfl
theorem findS_len (bys:List Int):∀ (S:List Sgt) (f:List Sgt),(S.foldl (findStep bys) f).length≤f.length+S.length
 | [],f=>by simp
 | s :: S,f=>by
   have h:=findS_len bys S (findStep bys f s)
   have h2:(findStep bys f s).length≤f.length+1:=by unfold findStep;split <;> simp
   simp only [List.foldl_cons,List.length_cons]
   omega
def RetFind (f:List Sgt) (m:Nat) (w:World) (e:Ending) (w':World):Prop:=∃ A c,e=.returned (.tuple #[.slice A f.length c,.bool ((f.length:Int) == (m:Int))])∧Below w.heap.size w w'∧w'.ownsRow w.heap.size 70 7 (.slice A f.length c) f.length (sgCells f)
set_option maxRecDepth 10000 in
theorem p_find (S:List Sgt) (bys:List Int) (a:Acc) (D:Option Addr) (m c:Nat) (w:World) (hn:a.Sn≤60) (hm:m≤9223372036854775807) (hs:Sgs w w.heap.size a.SA a.Sn S) (hd:Is w w.heap.size D m bys) :
 Calls Tryz.prog 85 #[accV a,.slice D m c] w (RetFind (findS bys S) m w):=by
 obtain ⟨⟨pA,pn,pc,rA,rn,rc,tA,tn,tc,sA,sn,sc⟩,kn,RA,Rn,Rc,SA,Sn,Sc,bm,TA,Tn,Tc,PA,Pn,Pc⟩:=a
 obtain ⟨i0,hi,hz0,hz1,hz2⟩:=info_parts infoSight
 have HS:Hid (Sgs w w.heap.size SA Sn S):=by show Sq _ _ _ _ _ _ _;exact hs
 have HL:Hid (S.length=Sn):=by show _=_;exact hs.len
 have HD:=hd_ hd
 have HML:=hd_ hd.len
 have hSn:Sn≤60:=hn
 clear hs hd hn
 show Calls _ _ #[.agg #[.slice pA pn pc,.slice rA rn rc,.slice tA tn tc,.slice sA sn sc,.int .i64 kn,.slice RA Rn Rc,.slice SA Sn Sc,.map (some bm),.slice TA Tn Tc,.slice PA Pn Pc],_] _ _
 go_enter Tryz.func85,Tryz.ntmps85
 go_wp2
 go_loopw [6,12] (fun v i wr=>∃ k:Nat,k≤Sn∧i=.int .i64 k∧wr.ownsRow w.heap.size 70 7 v (findS bys (S.take k)).length (sgCells (findS bys (S.take k)))∧Below w.heap.size w wr) (fun _ i _=>Sn - (intOf i).toNat)
 case atStart=>exact ⟨0,by omega,rfl,World.ownsRow_nil _ _ _ _,by exact bel_⟩
 case round =>
  obtain ⟨k,hk,rfl,hown,hB⟩:=hrel
  have hs0:w.heap.size≤wr.heap.size:=hB.size
  have hfl:(findS bys (S.take k)).length≤60:=by have h:=findS_len bys (S.take k) [];rw [List.length_take] at h;simp only [List.length_nil] at h;have:(findS bys (S.take k)).length≤0+min k S.length:=h;omega
  obtain ⟨A1,c1,rfl,hcc⟩:=own_slice hown
  obtain ⟨f,hf⟩:∃ f,findS bys (S.take k)=f:=⟨_,rfl⟩
  rw [hf] at hown hfl hcc
  simp only [hf]
  obtain ⟨fn,hfn⟩:∃ n,f.length=n:=⟨_,rfl⟩
  rw [hfn] at hown hfl hcc
  simp only [hfn]
  have HF:=hd_ hf
  have HFN:=hd_ hfn
  clear hf hfn
  by_cases hlt:k<Sn
  ·obtain ⟨b,o,s,rfl,hb,hx,a0,a1,a2,a3,a4,a5,a6⟩:=(Sq.ext HS.out abS hB lr_).at_ hlt
   have hbr:b<wr.heap.size:=by omega
   have HE:=hd_ (findS_succ (bys:=bys) hx)
   clear hx
   have HO:=hd_ hown
   have HB:=hd_ hB
   by_cases hl:fn<m
   ·obtain ⟨b3,o3,x,rfl,hb3,hx3,hc3⟩:=(Is.ext HD.out hB lr_).at_ hl
    have hb3r:b3<wr.heap.size:=by omega
    have hb3q:b3<wr.heap.size+1:=by omega
    have hll:decide ((fn:Int)<(m:Int))=true:=by simp;omega
    by_cases hq:x=s.src
    ·have hqd:(x == s.src)=true:=by simpa using hq
     have HN:Hid (findS bys (S.take (k+1))=f ++ [s]):=by show _=_;rw [HE.out,HF.out,findStep,HFN.out,hx3,if_pos (by rw [hq])]
     clear hq hx3
     go_wp2_with fail
     (refine rg_ ?_;(repeat (go_big_quiet_step (fail)));refine qn_ fun w1 hb1 hc1 hf1=>?_)
     have hown4:=own_ex (own_ex HO.out ((Below.refl _ _).alloc lr_ (.cells #[.int .i64 s.src,.int .i64 s.per,.int .i64 s.pap,.int .i64 s.leaf,.int .i64 s.day,.int .i64 s.kn,.int .i64 s.un] 70))) hb1
     have hs4:=hb1.size
     have hB4:Below w.heap.size w w1:=bt_ (HB.out.alloc hs0 (.cells #[.int .i64 s.src,.int .i64 s.per,.int .i64 s.pap,.int .i64 s.leaf,.int .i64 s.day,.int .i64 s.kn,.int .i64 s.un] 70)) hb1
     have hs5:=hB4.size
     go_wp2_with (at_builtin;refine wpList_append_own _ rfl (.tmp 31) (.tmp 33) 30 rfl w.heap.size 70 i0 _ 7 56 Tryz.underlying30 hi hz0 hz1 hz2 rfl (by decide) _ _ _ rfl (hown4.alloc _) ⟨w1.heap.size,0,none⟩ 1 1 [.int .i64 s.src,.int .i64 s.per,.int .i64 s.pap,.int .i64 s.leaf,.int .i64 s.day,.int .i64 s.kn,.int .i64 s.un] rfl rfl ?c1 ?c2 ?c3 ?c4 ?c5 ?_;rotate_left 5;intro v' w2 hown2 hgrow2 _)
     case c1=>intro j u hj;match j,hj with
      | 0,hj=>simp at hj;subst hj;simp [Addr.add]
      | 1,hj=>simp at hj;subst hj;simp [Addr.add]
      | 2,hj=>simp at hj;subst hj;simp [Addr.add]
      | 3,hj=>simp at hj;subst hj;simp [Addr.add]
      | 4,hj=>simp at hj;subst hj;simp [Addr.add]
      | 5,hj=>simp at hj;subst hj;simp [Addr.add]
      | 6,hj=>simp at hj;subst hj;simp [Addr.add]
      | j+7,hj=>simp at hj
     case c2=>simp [Value.oneCell']
     case c3=>unfold maxLen;omega
     case c4=>omega
     case c5=>simp;omega
     go_roundw
     case rel =>
      refine ⟨k+1,by omega,by go_num,?_,OwnS.below (hB4.alloc hs5 _) hown4 (by simp;omega) hgrow2⟩
      rw [HN.out,List.length_append,HFN.out]
      have e1:sgCells (f ++ [s])=sgCells f ++ [.int .i64 s.src,.int .i64 s.per,.int .i64 s.pap,.int .i64 s.leaf,.int .i64 s.day,.int .i64 s.kn,.int .i64 s.un]:=by simp [sgCells]
      rw [e1]
      exact hown2
     case measure=>exact ms_
    ·have hqd:(x == s.src)=false:=by simpa using hq
     have HN:Hid (findS bys (S.take (k+1))=f):=by show _=_;rw [HE.out,HF.out,findStep,HFN.out,hx3,if_neg (fun h=>hq (Option.some.inj h))]
     clear hq hx3
     go_wp2_with fail
     (refine rg_ ?_;(repeat (go_big_quiet_step (fail)));refine qn_ fun w1 hb1 hc1 hf1=>?_)
     go_wp2_with fail
     go_roundw
     case rel=>exact ⟨k+1,by omega,by go_num,by rw [HN.out,HFN.out];exact own_ex (own_ex HO.out ((Below.refl _ _).alloc lr_ (.cells #[.int .i64 s.src,.int .i64 s.per,.int .i64 s.pap,.int .i64 s.leaf,.int .i64 s.day,.int .i64 s.kn,.int .i64 s.un] 70))) hb1,bt_ (HB.out.alloc hs0 (.cells #[.int .i64 s.src,.int .i64 s.per,.int .i64 s.pap,.int .i64 s.leaf,.int .i64 s.day,.int .i64 s.kn,.int .i64 s.un] 70)) hb1⟩
     case measure=>exact ms_
   ·have hll:decide ((fn:Int)<(m:Int))=false:=by simp;omega
    have HN:Hid (findS bys (S.take (k+1))=f):=by show _=_;rw [HE.out,HF.out,findStep,HFN.out,List.getElem?_eq_none (by rw [HML.out];omega),if_neg (by simp)]
    go_wp2_with fail
    (refine rg_ ?_;(repeat (go_big_quiet_step (fail)));refine qn_ fun w1 hb1 hc1 hf1=>?_)
    go_wp2_with fail
    go_roundw
    case rel=>exact ⟨k+1,by omega,by go_num,by rw [HN.out,HFN.out];exact own_ex (own_ex HO.out ((Below.refl _ _).alloc lr_ (.cells #[.int .i64 s.src,.int .i64 s.per,.int .i64 s.pap,.int .i64 s.leaf,.int .i64 s.day,.int .i64 s.kn,.int .i64 s.un] 70))) hb1,bt_ (HB.out.alloc hs0 (.cells #[.int .i64 s.src,.int .i64 s.per,.int .i64 s.pap,.int .i64 s.leaf,.int .i64 s.day,.int .i64 s.kn,.int .i64 s.un] 70)) hb1⟩
    case measure=>exact ms_
  ·have hkn:Hid (k=Sn):=by show _=_;omega
   have HA:Hid (findS bys S=f):=by show _=_;rw [← HF.out,hkn.out,List.take_of_length_le (by rw [HL.out];exact lr_)]
   go_wp2
   go_ret2
   rw [HA.out]
   exact ⟨A1,c1,by rw [HFN.out];rfl,hB,by rw [HFN.out];exact hown⟩
end Go.Proofs.YtmcmbicapdcfmaaGreat
