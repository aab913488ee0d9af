/- Layer 2 of the texts that LoanBack takes: Bbgq. -/
import Derived.Test.YtmcmbicapdcfmaaGreatBbfq
import Derived.Test.YtmcmbicapdcfmaaGreatBbcq
set_option linter.unusedVariables false
set_option linter.unusedSimpArgs false
set_option maxHeartbeats 16000000
namespace Go.Proofs.YtmcmbicapdcfmaaGreat
open Go.RowKit Go.Maps
structure SnS (w W:World) (LC SC:Array Value):Prop where
 hB:Below w.heap.size w W
 bL:BoxA W w.heap.size 32 LC
 bS:BoxA W (w.heap.size+1) 70 SC
 bZ:BoxA W (w.heap.size+2) 32 #[.slice none 0 0,.slice none 0 0,.slice none 0 0,.slice none 0 0]
theorem SnS.ext {w W W':World} {LC SC:Array Value} (h:SnS w W LC SC) (hb:Below W.heap.size W W'):SnS w W' LC SC:=⟨bt_ h.hB hb,h.bL.ext hb,h.bS.ext hb,h.bZ.ext hb⟩
theorem SnS.grow {w W W':World} {LC SC:Array Value} (h:SnS w W LC SC) {row:Option Nat} (hg:W.grownBy W' row) (hr:∀ b,row=some b→w.heap.size+3≤b):SnS w W' LC SC :=
 ⟨h.hB.grown hg h.hB.size fun b hb=>by have:=hr b hb;omega,h.bL.kept hg (fun e=>by have:=hr _ e.symm;omega),h.bS.kept hg (fun e=>by have:=hr _ e.symm;omega),h.bZ.kept hg (fun e=>by have:=hr _ e.symm;omega)⟩
theorem SnS.new (w:World) (LC SC:Array Value):SnS w (((w.alloc (.cells LC 32)).alloc (.cells SC 70)).alloc (.cells #[.slice none 0 0,.slice none 0 0,.slice none 0 0,.slice none 0 0] 32)) LC SC:=by
 have h:=box3 w 32 70 32 LC SC #[.slice none 0 0,.slice none 0 0,.slice none 0 0,.slice none 0 0]
 exact ⟨by exact bel_,h.1,h.2.1,h.2.2⟩
def RetSeen (l:Led) (s:Sgt) (w:World) (e:Ending) (w':World):Prop:=∃ y:Lsl,e=.returned (.tuple #[.agg #[.slice y.pA y.pn y.pc,.slice y.rA y.rn y.rc,.slice y.tA y.tn y.tc,.slice y.sA y.sn y.sc],.int .i64 (seenE l s)])∧Below w.heap.size w w'∧y.fit∧LedIn w' w'.heap.size y (seenL l s)
theorem Led.none_in (w:World) (B:Nat):LedIn w B ⟨none,0,0,none,0,0,none,0,0,none,0,0⟩ ⟨[],[],[],[]⟩:=⟨Sq.nil_,Sq.nil_,Sq.nil_,Sq.nil_⟩
theorem RetSeen.err {l:Led} {s:Sgt} {w w':World} {v:Int} (hv:seenE l s=v) (h0:¬ v=0) (hb:Below w.heap.size w w'):RetSeen l s w (.returned (.tuple #[.agg #[.slice none 0 0,.slice none 0 0,.slice none 0 0,.slice none 0 0],.int .i64 v])) w' :=
 ⟨⟨none,0,0,none,0,0,none,0,0,none,0,0⟩,by rw [hv],hb,⟨⟨lr_,Nat.zero_le _⟩,⟨lr_,Nat.zero_le _⟩,⟨lr_,Nat.zero_le _⟩,⟨lr_,Nat.zero_le _⟩⟩,by rw [seenL,if_neg (by rw [hv];exact h0)];exact Led.none_in _ _⟩
end Go.Proofs.YtmcmbicapdcfmaaGreat
namespace Go.Proofs.YtmcmbicapdcfmaaGreat
open Go.RowKit
end Go.Proofs.YtmcmbicapdcfmaaGreat
namespace Go.Proofs.YtmcmbicapdcfmaaGreat
open Go.RowKit Go.Shelf Go.Maps
end Go.Proofs.YtmcmbicapdcfmaaGreat
namespace Go.Proofs.YtmcmbicapdcfmaaGreat
open Go.RowKit Go.Maps
theorem lv_range {l:Led} (h:LedOk l) (pap:Int):∃ n:Nat,lvOf l.pp pap=n∧n≤30:=by
 have g:∀ pp:List Ppr,(∀ p∈pp,0≤p.lv∧p.lv≤30)→0≤lvOf pp pap∧lvOf pp pap≤30:=by
  intro pp
  induction pp with
  | nil=>intro _;simp [lvOf]
  | cons p pp ih =>
    intro hp
    rw [lvOf]
    split
    ·exact hp p (by simp)
    ·exact ih fun q hq=>hp q (by simp [hq])
 obtain ⟨h1,h2⟩:=g l.pp h.pp
 exact ⟨(lvOf l.pp pap).toNat,by omega,by omega⟩
def canW (l:Led) (kn day pap:Int) (i:Nat):Bool:=decide ((0:Int)∈whL l kn day (pap,(i:Int)+1))
def notW (l:Led) (kn day pap:Int) (i:Nat):Bool:=!decide (whL l kn day (pap,(i:Int)+1)=[0])
def wholeX (l:Led) (pap day kn:Int):Int × Int:=if preF l day kn pap 1=0 then (if setE l kn=0 then (ansI ((List.range (lvOf l.pp pap).toNat).all (canW l kn day pap)) ((List.range (lvOf l.pp pap).toNat).any (notW l kn day pap)),0) else (0,setE l kn)) else (0,preF l day kn pap 1)
theorem rng_all {p:Nat→Bool} {k:Nat}:(List.range (k+1)).all p=((List.range k).all p && p k):=by rw [List.range_succ,List.all_append];simp
theorem rng_any {p:Nat→Bool} {k:Nat}:(List.range (k+1)).any p=((List.range k).any p || p k):=by rw [List.range_succ,List.any_append];simp
set_option maxRecDepth 10000 in
theorem p_WholeX (l:Led) (x:Lsl) (pap day kn:Int) (w:World) (hf:x.fit) (hd:LedIn w w.heap.size x l) :
 Calls Tryz.prog 34 #[.agg #[.slice x.pA x.pn x.pc,.slice x.rA x.rn x.rc,.slice x.tA x.tn x.tc,.slice x.sA x.sn x.sc],.int .i64 pap,.int .i64 day,.int .i64 kn] w (fun e w'=>e=.returned (.tuple #[.int .i64 (wholeX l pap day kn).1,.int .i64 (wholeX l pap day kn).2])∧Below w.heap.size w w'):=by
 obtain ⟨pA,pn,pc,rA,rn,rc,tA,tn,tc,sA,sn,sc⟩:=x
 have HD:=hd_ hd
 have hml:maxLen≤9223372036854775807:=by decide
 have hpn:pn≤9223372036854775807:=by have:=hf.p;dsimp only at this;omega
 have hrn:rn≤9223372036854775807:=by have:=hf.r;dsimp only at this;omega
 have htn:tn≤9223372036854775807:=by have:=hf.t;dsimp only at this;omega
 have hsn:sn≤9223372036854775807:=by have:=hf.s;dsimp only at this;omega
 clear hd hf hml
 obtain ⟨vp,hv⟩:∃ vp,preF l day kn pap 1=vp:=⟨_,rfl⟩
 have HV:Hid (orL [errI (ledB l) 24,errI (daysOk [day,kn]) 6,errI (folB l.pp pap 1) 26]=vp):=by show _=_;exact hv
 obtain ⟨W0,hW0⟩:∃ W0,W0=(w.alloc (.cells #[.slice pA pn pc,.slice rA rn rc,.slice tA tn tc,.slice sA sn sc] 32)):=⟨_,rfl⟩
 have HC0:Below w.heap.size w W0:=by rw [hW0];exact bel_
 have bL:BoxA W0 w.heap.size 32 #[.slice pA pn pc,.slice rA rn rc,.slice tA tn tc,.slice sA sn sc]:=by rw [hW0];exact BoxA.new _ _ _
 have HW0:=hd_ hW0
 have HVP:=hd_ hv
 clear hW0 hv
 go_enter Tryz.func34,Tryz.ntmps34
 go_wp2
 refine wp_named2 fun f1 V1 hf1 hV1=>?_
 obtain rfl:V1=W0:=by rw [← hV1,HW0.out]
 clear hV1
 refine wp_cut2 (fun a' W'=>IsFr2 (fun u=>{ tmps:=#[.agg #[.slice pA pn pc,.slice rA rn rc,.slice tA tn tc,.slice sA sn sc],.int .i64 pap,.int .i64 day,.int .i64 kn,.pointer (some ⟨w.heap.size,0,none⟩),u 5,u 6,u 7,.int .i64 0,.int .i64 0,.int .i64 vp,u 11,u 12,u 13,u 14,u 15,u 16,u 17,u 18,u 19,u 20,u 21,u 22,u 23,u 24,u 25,u 26,u 27,u 28,u 29,u 30,u 31,u 32,u 33,u 34,u 35,u 36,u 37,u 38,u 39,u 40,u 41,u 42,u 43,u 44,u 45,u 46,u 47,u 48,u 49,u 50,u 51,u 52,u 53,u 54,u 55,u 56,u 57,u 58,u 59,u 60,u 61,u 62,u 63,u 64,u 65],defers:=[] }) a'∧Below w.heap.size w W'∧(∀ o,W'.cell? ⟨w.heap.size,o,none⟩=(#[.slice pA pn pc,.slice rA rn rc,.slice tA tn tc,.slice sA sn sc]:Array Value)[o]?)∧w.heap.size<W'.heap.size) ?reg ?rest
 case reg =>
  subst hf1
  have HC:Below w.heap.size w V1.drew:=HC0.drew
  have zL:w.heap.size<V1.heap.size:=bL.lt
  (refine wp_region_sink_lit (S:=S1 w.heap.size w.heap.size #[.slice pA pn pc,.slice rA rn rc,.slice tA tn tc,.slice sA sn sc] #[.slice pA pn pc,.slice rA rn rc,.slice tA tn tc,.slice sA sn sc]) 11 (by kernel_rfl) rfl rfl (by kernel_rfl) (by kernel_rfl) ⟨bL.cell,bL.cell,zL,zL⟩ (fun hS=>?_);simp only [List.take_succ_cons,List.take_zero,List.reduceReplicate,Array.replicate_succ,Array.replicate_zero])
  (refine tk_ (i:=0) (v:=?_) rfl ?_ hS ?_;rotate_left;focus (intro w2 hw2;(try unfold S1 at hw2);go_split_ands;go_simp;first | done | with_reducible rfl);(try simp only [Act.put,pu1,pu2,pu3]))
  (refine tk_ (i:=2) (v:=?_) rfl ?_ hS ?_;rotate_left;focus (intro w2 hw2;(try unfold S1 at hw2);go_split_ands;go_simp;first | done | with_reducible rfl);(try simp only [Act.put,pu1,pu2,pu3]))
  (refine tk_ (i:=3) (v:=?_) rfl ?_ hS ?_;rotate_left;focus (intro w2 hw2;(try unfold S1 at hw2);go_split_ands;go_simp;first | done | with_reducible rfl);(try simp only [Act.put,pu1,pu2,pu3]))
  (refine tk_ (i:=6) (v:=?_) rfl ?_ hS ?_;rotate_left;focus (intro w2 hw2;(try unfold S1 at hw2);go_split_ands;go_simp;first | done | with_reducible rfl);(try simp only [Act.put,pu1,pu2,pu3]))
  (refine tk_ (i:=7) (v:=?_) rfl ?_ hS ?_;rotate_left;focus (intro w2 hw2;(try unfold S1 at hw2);go_split_ands;go_simp;first | done | with_reducible rfl);(try simp only [Act.put,pu1,pu2,pu3]))
  refine rd_ [1,4] ?_
  refine AllReadyH.cons rfl (fun K hK=>?_) (AllReadyH.cons rfl (fun K hK=>?_) AllReadyH.nil)
  ·(go_simp;go_at_call 12;refine (p_Check l ⟨pA,pn,pc,rA,rn,rc,tA,tn,tc,sA,sn,sc⟩ _ hpn hrn htn hsn (HD.out.now HC)).mono ?_;rintro e v1 ⟨rfl,hb⟩;go_simp)
   have HC:=bt_ HC hb
   refine hK.out _ _ (S1.ext hb hS) (fun hS=>?_)
   clear hK K hb
   (try simp only [Act.put,pu1,pu2,pu3])
   refine rd_ [4] ?_
   refine ah1 rfl fun K hK=>?_
   go_simp
   have hAr:=BoxA.new (v1) 3 #[.int .i64 day,.int .i64 kn]
   have HC:=HC.alloc HC.size (.cells #[.int .i64 day,.int .i64 kn] 3)
   refine hK.out _ _ (S1.ext ((Below.refl _ _).alloc lr_ _) hS) (fun hS=>?_)
   clear hK K
   (try simp only [Act.put,pu1,pu2,pu3])
   refine rd_ [5] ?_
   refine ah1 rfl fun K hK=>?_
   (go_simp;go_at_call 63;refine (p_checkDays [day,kn] _ 2 2 _ (by decide) (is_box hAr rfl)).mono ?_;rintro e v3 ⟨rfl,hb⟩;go_simp)
   have HC:=bt_ HC hb
   have hAr:=hAr.ext hb
   refine hK.out _ _ (S1.ext hb hS) (fun hS=>?_)
   clear hK K hb
   (try simp only [Act.put,pu1,pu2,pu3])
   refine rd_ [8] ?_
   refine ah1 rfl fun K hK=>?_
   (go_simp;go_at_call 66;refine (p_checkPaper2 l.pp ⟨pA,pn,pc,rA,rn,rc,tA,tn,tc,sA,sn,sc⟩ pap _ hpn (HD.out.now HC).p).mono ?_;rintro e v4 ⟨rfl,hb⟩;go_simp)
   have HC:=bt_ HC hb
   have hAr:=hAr.ext hb
   refine hK.out _ _ (S1.ext hb hS) (fun hS=>?_)
   clear hK K hb
   (try simp only [Act.put,pu1,pu2,pu3])
   refine rd_ [9] ?_
   refine ah1 rfl fun K hK=>?_
   go_simp
   have HCX:=HC.alloc HC.size (.cells #[.int .i64 (errI (ledB l) 24),.int .i64 (errI (daysOk [day,kn]) 6),.int .i64 (errI (folB l.pp pap 1) 26)] 39)
   refine hK.out _ _ (S1.ext ((Below.refl _ _).alloc lr_ _) hS) (fun hS=>?_)
   clear hK K
   (try simp only [Act.put,pu1,pu2,pu3])
   refine rd_ [10] ?_
   refine ah1 rfl fun K hK=>?_
   (go_simp;go_at_call 62;refine (p_first [errI (ledB l) 24,errI (daysOk [day,kn]) 6,errI (folB l.pp pap 1) 26] vp _ 3 3 _ (by decide) (Rd.new _ #[.int .i64 (errI (ledB l) 24),.int .i64 (errI (daysOk [day,kn]) 6),.int .i64 (errI (folB l.pp pap 1) 26)] _ 1 3 _ (by simp) rfl) HV.out).mono ?_;rintro e w9 ⟨rfl,rfl⟩;go_simp)
   refine hK.out _ _ hS (fun hS=>?_)
   clear hK K
   (try simp only [Act.put,pu1,pu2,pu3])
   refine wpAnyH_done (by kernel_rfl) ?_ _
   simp only [sinkQ]
   go_simp
   refine ⟨IsFr2.of rfl,HCX,fun o=>?_,hS.2.2.1⟩
   have h:=hS.1 o
   simpa using h
  ·go_simp
   have hAr:=BoxA.new (V1.drew) 3 #[.int .i64 day,.int .i64 kn]
   have HC:=HC.alloc HC.size (.cells #[.int .i64 day,.int .i64 kn] 3)
   refine hK.out _ _ (S1.ext ((Below.refl _ _).alloc lr_ _) hS) (fun hS=>?_)
   clear hK K
   (try simp only [Act.put,pu1,pu2,pu3])
   refine rd_ [1] ?_
   refine ah1 rfl fun K hK=>?_
   (go_simp;go_at_call 12;refine (p_Check l ⟨pA,pn,pc,rA,rn,rc,tA,tn,tc,sA,sn,sc⟩ _ hpn hrn htn hsn (HD.out.now HC)).mono ?_;rintro e v6 ⟨rfl,hb⟩;go_simp)
   have HC:=bt_ HC hb
   have hAr:=hAr.ext hb
   refine hK.out _ _ (S1.ext hb hS) (fun hS=>?_)
   clear hK K hb
   (try simp only [Act.put,pu1,pu2,pu3])
   refine rd_ [5] ?_
   refine ah1 rfl fun K hK=>?_
   (go_simp;go_at_call 63;refine (p_checkDays [day,kn] _ 2 2 _ (by decide) (is_box hAr rfl)).mono ?_;rintro e v7 ⟨rfl,hb⟩;go_simp)
   have HC:=bt_ HC hb
   have hAr:=hAr.ext hb
   refine hK.out _ _ (S1.ext hb hS) (fun hS=>?_)
   clear hK K hb
   (try simp only [Act.put,pu1,pu2,pu3])
   refine rd_ [8] ?_
   refine ah1 rfl fun K hK=>?_
   (go_simp;go_at_call 66;refine (p_checkPaper2 l.pp ⟨pA,pn,pc,rA,rn,rc,tA,tn,tc,sA,sn,sc⟩ pap _ hpn (HD.out.now HC).p).mono ?_;rintro e v8 ⟨rfl,hb⟩;go_simp)
   have HC:=bt_ HC hb
   have hAr:=hAr.ext hb
   refine hK.out _ _ (S1.ext hb hS) (fun hS=>?_)
   clear hK K hb
   (try simp only [Act.put,pu1,pu2,pu3])
   refine rd_ [9] ?_
   refine ah1 rfl fun K hK=>?_
   go_simp
   have HCX:=HC.alloc HC.size (.cells #[.int .i64 (errI (ledB l) 24),.int .i64 (errI (daysOk [day,kn]) 6),.int .i64 (errI (folB l.pp pap 1) 26)] 39)
   refine hK.out _ _ (S1.ext ((Below.refl _ _).alloc lr_ _) hS) (fun hS=>?_)
   clear hK K
   (try simp only [Act.put,pu1,pu2,pu3])
   refine rd_ [10] ?_
   refine ah1 rfl fun K hK=>?_
   (go_simp;go_at_call 62;refine (p_first [errI (ledB l) 24,errI (daysOk [day,kn]) 6,errI (folB l.pp pap 1) 26] vp _ 3 3 _ (by decide) (Rd.new _ #[.int .i64 (errI (ledB l) 24),.int .i64 (errI (daysOk [day,kn]) 6),.int .i64 (errI (folB l.pp pap 1) 26)] _ 1 3 _ (by simp) rfl) HV.out).mono ?_;rintro e w9 ⟨rfl,rfl⟩;go_simp)
   refine hK.out _ _ hS (fun hS=>?_)
   clear hK K
   (try simp only [Act.put,pu1,pu2,pu3])
   refine wpAnyH_done (by kernel_rfl) ?_ _
   simp only [sinkQ]
   go_simp
   refine ⟨IsFr2.of rfl,HCX,fun o=>?_,hS.2.2.1⟩
   have h:=hS.1 o
   simpa using h
 case rest =>
  clear hf1 bL HC0
  rintro a' W' ⟨⟨u,rfl⟩,HB2,kL2,zL2⟩
  have hs2:=HB2.size
  by_cases hv0:vp=0
  ·subst hv0
   have HLO:=hd_ (led_ok (preF_zero HVP.out))
   obtain ⟨ve,hve⟩:∃ ve,setE l kn=ve:=⟨_,rfl⟩
   by_cases he:ve=0
   ·subst he
    obtain ⟨n,hn,hn30⟩:=lv_range HLO.out pap
    have hres:wholeX l pap day kn=(ansI ((List.range n).all (canW l kn day pap)) ((List.range n).any (notW l kn day pap)),0):=by rw [wholeX,if_pos HVP.out,if_pos hve,hn,Int.toNat_natCast]
    have HRES:=hd_ hres
    have HSE:=hd_ hve
    have HLN:=hd_ hn
    clear hres hve
    go_wp2_with (first | (go_at_call 64;refine (p_openA l ⟨pA,pn,pc,rA,rn,rc,tA,tn,tc,sA,sn,sc⟩ kn _ HLO.out (HD.out.now HB2)).mono ?_;rintro e w5 ⟨RA,Rn,Rc,SA,Sn,Sc,bm,TA,Tn,Tc,PA,Pn,Pc,rfl,hb5,hO⟩;have HB5:Below w.heap.size w w5:=bt_ HB2 hb5;have hs5:=HB5.size;have HO:=hd_ hO;have kL5:∀ o,w5.cell? ⟨w.heap.size,o,none⟩=(#[.slice pA pn pc,.slice rA rn rc,.slice tA tn tc,.slice sA sn sc]:Array Value)[o]?:=(fun o=>(hb5.cell (p:=⟨w.heap.size,o,none⟩) zL2).trans (kL2 o));have zL5:w.heap.size<w5.heap.size:=Nat.lt_of_lt_of_le zL2 hb5.size;clear kL2 hO hb5) | (go_at_call 73;refine (p_settle0 l kn ⟨⟨pA,pn,pc,rA,rn,rc,tA,tn,tc,sA,sn,sc⟩,kn,RA,Rn,Rc,SA,Sn,Sc,bm,TA,Tn,Tc,PA,Pn,Pc⟩ w5 HLO.out HO.out HSE.out).mono ?_;rintro e w6 ⟨PA2,Pc2,rfl,hb6,hbx6,hac6,hlp6⟩;have HB6:Below w.heap.size w w6:=bt_ HB5 hb6;have hs6:=HB6.size;have hs56:=hb6.size;have k6:=hbx6.cell;have z6:=hbx6.lt;have HAC:=hd_ hac6;have HBX:=hd_ hbx6;have kL6:∀ o,w6.cell? ⟨w.heap.size,o,none⟩=(#[.slice pA pn pc,.slice rA rn rc,.slice tA tn tc,.slice sA sn sc]:Array Value)[o]?:=(fun o=>(hb6.cell (p:=⟨w.heap.size,o,none⟩) zL5).trans (kL5 o));have zL6:w.heap.size<w6.heap.size:=Nat.lt_of_lt_of_le zL5 hb6.size;clear kL5 hac6 hlp6 hb6 hbx6) | (go_at_call 67;refine (p_leaves l.pp ⟨pA,pn,pc,rA,rn,rc,tA,tn,tc,sA,sn,sc⟩ pap _ hpn (HD.out.now HB6).p).mono ?_;rintro e w7 ⟨rfl,hb7⟩;have HB7:Below w.heap.size w w7:=HB6.trans (hb7.mono hs6);have hs67:=hb7.size;have HBX7:=hd_ (HBX.out.ext hb7);have HAC7:=hd_ (HAC.out.now hb7);clear hb7 kL6 zL6 k6 z6))
    have HWH:Hid (∀ (W:World) (a b:Int),Below w7.heap.size w7 W→(Lit.int .i64 b).wf=true→Calls Tryz.prog 74 #[.agg #[.slice pA pn pc,.slice rA rn rc,.slice tA tn tc,.slice sA sn sc,.int .i64 kn,.slice RA Rn Rc,.slice SA Sn Sc,.map (some bm),.slice TA Tn Tc,.slice PA2 Pn Pc2],.agg #[.int .i64 a,.int .i64 b],.int .i64 day] W (RetO (whL l kn day (a,b)) W)):=by
     show ∀ _,_
     exact fun W a b hW hwf=>p_where _ _ _ ⟨⟨pA,pn,pc,rA,rn,rc,tA,tn,tc,sA,sn,sc⟩,kn,RA,Rn,Rc,SA,Sn,Sc,bm,TA,Tn,Tc,PA2,Pn,Pc2⟩ a b day W (HAC7.out.now hW) hwf
    go_loopw [13,14,41] (fun ca cb i wr=>∃ k:Nat,k≤n∧i=.int .i64 k∧ca=.bool ((List.range k).all (canW l kn day pap))∧cb=.bool ((List.range k).any (notW l kn day pap))∧Below w7.heap.size w7 wr) (fun _ _ i _=>n - (intOf i).toNat)
    case atStart=>exact ⟨0,by omega,rfl,rfl,rfl,Below.refl _ _⟩
    case round =>
     obtain ⟨k,hk,rfl,rfl,rfl,hB⟩:=hrel
     have hsB:=hB.size
     have bAw:=HBX7.out.ext hB
     have kAw:=bAw.cell
     have zAw:=bAw.lt
     obtain ⟨ca,hca⟩:∃ b,(List.range k).all (canW l kn day pap)=b:=⟨_,rfl⟩
     obtain ⟨cb,hcb⟩:∃ b,(List.range k).any (notW l kn day pap)=b:=⟨_,rfl⟩
     rw [hca,hcb]
     have HCA:=hd_ hca
     have HCB:=hd_ hcb
     clear hca hcb
     by_cases hlt:k<n
     ·have hwf:(Lit.int .i64 ((k:Int)+1)).wf=true:=wf_small (by omega) (by omega)
      have hwr:IntKind.i64.wrap ((k:Int)+1)=(k:Int)+1:=IntWalk.i64_in _ (by omega)
      obtain ⟨q1,hq1⟩:∃ q,decide ((0:Int)∈whL l kn day (pap,(k:Int)+1))=q:=⟨_,rfl⟩
      obtain ⟨q2,hq2⟩:∃ q,decide (whL l kn day (pap,(k:Int)+1)=[0])=q:=⟨_,rfl⟩
      have HQ1:=hd_ hq1
      have HQ2:=hd_ hq2
      have HA:Hid (canW l kn day pap k=q1):=by show _=_;exact hq1
      have HN:Hid (notW l kn day pap k=!q2):=by show _=_;rw [notW,hq2]
      clear hq1 hq2
      cases ca <;> cases cb
      all_goals
       go_wp2_with (first | (go_at_call 74;refine (HWH.out _ pap ((k:Int)+1) hB hwf).mono ?_;rintro e w8 ⟨v8,rfl,hb8,ho8⟩;obtain ⟨A8,c8,rfl,hc8⟩:=own_slice ho8;have HB8:Below wr.heap.size wr w8:=hb8;have hs8:=HB8.size;have HI8:=hd_ (Rd.of_own ho8);have hl8:=whL_len l kn day (pap,(k:Int)+1);clear ho8 hb8) | (go_at_call 71;refine (l_contains (whL l kn day (pap,(k:Int)+1)) 0 _ _ _ _ _ (by omega) HI8.out HQ1.out).mono ?_;rintro e w9 ⟨rfl,rfl⟩) | (go_at_call 70;refine (p_isOnly_v (whL l kn day (pap,(k:Int)+1)) 0 _ _ _ _ _ (by omega) HI8.out HQ2.out).mono ?_;rintro e w9 ⟨rfl,rfl⟩))
       go_roundw
       case rel=>exact ⟨k+1,by omega,by go_num,by rw [rng_all,HCA.out,HA.out] <;> rfl,by rw [rng_any,HCB.out,HN.out] <;> rfl,hB.trans (HB8.mono (by omega))⟩
       case measure=>exact ms_
     ·have hkn:Hid (k=n):=by show _=_;omega
      go_wp2_with (go_at_call 94;refine (p_answer ca cb _).mono ?_;rintro e w1 ⟨rfl,rfl⟩)
      go_ret2
      exact ⟨by rw [HRES.out,← HCA.out,← HCB.out,hkn.out];rfl,HB7.trans (hB.mono (by omega))⟩
   ·have hres:wholeX l pap day kn=(0,ve):=by rw [wholeX,if_pos HVP.out,if_neg (by rw [hve];exact he),hve]
    have HRES:=hd_ hres
    have HSE:=hd_ hve
    have HVE:=hd_ he
    have hed:(ve != 0)=true:=by simpa using he
    clear hres hve he
    go_wp2_with (first | (go_at_call 64;refine (p_openA l ⟨pA,pn,pc,rA,rn,rc,tA,tn,tc,sA,sn,sc⟩ kn _ HLO.out (HD.out.now HB2)).mono ?_;rintro e w5 ⟨RA,Rn,Rc,SA,Sn,Sc,bm,TA,Tn,Tc,PA,Pn,Pc,rfl,hb5,hO⟩;have HB5:Below w.heap.size w w5:=bt_ HB2 hb5;have hs5:=HB5.size;have HO:=hd_ hO;have kL5:∀ o,w5.cell? ⟨w.heap.size,o,none⟩=(#[.slice pA pn pc,.slice rA rn rc,.slice tA tn tc,.slice sA sn sc]:Array Value)[o]?:=(fun o=>(hb5.cell (p:=⟨w.heap.size,o,none⟩) zL2).trans (kL2 o));have zL5:w.heap.size<w5.heap.size:=Nat.lt_of_lt_of_le zL2 hb5.size;clear kL2 hO hb5) | (go_at_call 73;refine (p_settleN l kn ⟨⟨pA,pn,pc,rA,rn,rc,tA,tn,tc,sA,sn,sc⟩,kn,RA,Rn,Rc,SA,Sn,Sc,bm,TA,Tn,Tc,PA,Pn,Pc⟩ ve w5 HLO.out HO.out HSE.out HVE.out).mono ?_;rintro e w6 ⟨rfl,hb6⟩;have HB6:Below w.heap.size w w6:=bt_ HB5 hb6;have hs6:=HB6.size))
    go_ret2
    rw [HRES.out]
    exact ⟨rfl,HB6⟩
  ·have hres:wholeX l pap day kn=(0,vp):=by rw [wholeX,if_neg (by rw [HVP.out];exact hv0),HVP.out]
   have HRES:=hd_ hres
   have hv1:(vp != 0)=true:=by simpa using hv0
   clear hres hv0
   go_wp2
   go_ret2
   rw [HRES.out]
   exact ⟨rfl,HB2⟩
def whoP (l:Led) (kn day pap:Int) (days:List Int) (i:Nat):Int:=if (stayP (opnL l kn).M (cntR l kn) pap ((i:Int)+1) day).2<0∨day<days.getD (stayP (opnL l kn).M (cntR l kn) pap ((i:Int)+1) day).2.toNat 0 then (stayP (opnL l kn).M (cntR l kn) pap ((i:Int)+1) day).1 else 0
def placedX (l:Led) (days:List Int) (pap day kn:Int):List Int × Int:=if preF l day kn pap 1=0 then (if trueE l kn days=0 then ((List.range (lvOf l.pp pap).toNat).map (whoP l kn day pap days),0) else ([],trueE l kn days)) else ([],preF l day kn pap 1)
def whPL (l:Led) (kn day pap:Int) (days:List Int) (n k:Nat):List Int:=(List.range k).map (whoP l kn day pap days) ++ List.replicate (n - k) 0
theorem whPL_zero (l:Led) (kn day pap:Int) (days:List Int) (n:Nat):whPL l kn day pap days n 0=List.replicate n 0:=by simp [whPL]
theorem whPL_len (l:Led) (kn day pap:Int) (days:List Int) {n k:Nat} (h:k≤n):(whPL l kn day pap days n k).length=n:=by simp [whPL];omega
theorem whPL_all (l:Led) (kn day pap:Int) (days:List Int) (n:Nat):whPL l kn day pap days n n=(List.range n).map (whoP l kn day pap days):=by simp [whPL]
theorem whPL_succ (l:Led) (kn day pap:Int) (days:List Int) {n k:Nat} (h:k<n):whPL l kn day pap days n (k+1)=(whPL l kn day pap days n k).set k (whoP l kn day pap days k):=by
 unfold whPL
 obtain ⟨d,hd⟩:∃ d,n - k=d+1:=⟨n - k - 1,by omega⟩
 rw [hd,show n - (k+1)=d from by omega,List.range_succ,List.map_append,List.replicate_succ,List.set_append_right _ _ (by simp)]
 simp
theorem whPL_same (l:Led) (kn day pap:Int) (days:List Int) {n k:Nat} (h:k<n) (h0:whoP l kn day pap days k=0):whPL l kn day pap days n (k+1)=whPL l kn day pap days n k:=by
 rw [whPL_succ l kn day pap days h,h0]
 apply List.ext_getElem?
 intro j
 rw [List.getElem?_set]
 by_cases hj:k=j
 ·subst hj
  rw [if_pos rfl,if_pos (by rw [whPL_len l kn day pap days (Nat.le_of_lt h)];exact h)]
  unfold whPL
  rw [List.getElem?_append_right (by simp)]
  obtain ⟨d,hd⟩:∃ d,n - k=d+1:=⟨n - k - 1,by omega⟩
  rw [hd,List.length_map,List.length_range,Nat.sub_self,List.replicate_succ]
  rfl
 ·rw [if_neg hj]
theorem made_int (n:Nat):madeCells #[.int .i64 0] n=(intL (List.replicate n 0)).toArray:=by
 apply Array.ext'
 rw [toList_madeCells_one]
 simp [intL]
theorem make_int (n:Nat) (hn:n≤1000000) (w:World):(Instr.makeSlice 33 (.int .i64 (n:Int)) (.int .i64 (n:Int))).run Tryz.prog w=.ok (.slice (some ⟨w.heap.size,0,none⟩) n n) (w.alloc (.cells (intL (List.replicate n 0)).toArray 3)):=by
 obtain ⟨i0,hi,hz0,hz1,hz2⟩:=info_parts infoI2
 have h:=run_make (w:=w) 33 3 i0 _ Tryz.underlying33 hi hz0 .i64 .i64 n n (by omega) (Int.le_refl _) (by rw [hz2];omega) (by omega)
 rw [h,hz1]
 simp only [Int.toNat_natCast,Nat.mul_one,Value.cells]
 rw [made_int]
theorem BoxA.setI {W:World} {B:Nat} {t:TypeId} {xs:List Int} (h:BoxA W B t (intL xs).toArray) (i:Nat) (v:Int):BoxA (W.setCell ⟨B,i,none⟩ (.int .i64 v)) B t (intL (xs.set i v)).toArray:=by
 have:=h.set i (.int .i64 v)
 simpa [intL,List.map_set] using this
theorem true_len {l:Led} {kn:Int} {days:List Int} (h:trueE l kn days=0):days.length=l.rt.length:=by
 unfold trueE at h
 split at h
 ·rename_i h1;exact h1.1
 ·cases h
theorem p_stayA (M:List ((Int × Int) × Nat)) (R:List Rcp) (P:List (Int × Int)) (a:Acc) (pap leaf day:Int) (st:Int × Int) (w:World) (h:AccR w a M R P) (hwl:(Lit.int .i64 leaf).wf=true) (hst:stayP M R pap leaf day=st) :
 Calls Tryz.prog 68 #[accV a,.agg #[.int .i64 pap,.int .i64 leaf],.int .i64 day] w fun e w'=>e=.returned (.agg #[.int .i64 st.1,.int .i64 st.2])∧Below w.heap.size w w':=by
 subst hst
 exact p_stay M R a pap leaf day w h.nR (fun r hr=>⟨(h.okR r hr).1,(h.okR r hr).2.1⟩) hwl h.m h.r
set_option maxRecDepth 100000 in
theorem p_PlacedX (l:Led) (x:Lsl) (days:List Int) (D:Option Addr) (m c0:Nat) (pap day kn:Int) (w:World) (hf:x.fit) (hd:LedIn w w.heap.size x l) (hm:m≤9223372036854775807) (hdy:Is w w.heap.size D m days) :
 Calls Tryz.prog 14 #[.agg #[.slice x.pA x.pn x.pc,.slice x.rA x.rn x.rc,.slice x.tA x.tn x.tc,.slice x.sA x.sn x.sc],.slice D m c0,.int .i64 pap,.int .i64 day,.int .i64 kn] w (RetLE (placedX l days pap day kn) w):=by
 obtain ⟨pA,pn,pc,rA,rn,rc,tA,tn,tc,sA,sn,sc⟩:=x
 have HD:=hd_ hd
 have hml:maxLen≤9223372036854775807:=by decide
 have hpn:pn≤9223372036854775807:=by have:=hf.p;dsimp only at this;omega
 have hrn:rn≤9223372036854775807:=by have:=hf.r;dsimp only at this;omega
 have htn:tn≤9223372036854775807:=by have:=hf.t;dsimp only at this;omega
 have hsn:sn≤9223372036854775807:=by have:=hf.s;dsimp only at this;omega
 clear hd hf hml
 have HDY:=hd_ hdy
 clear hdy
 obtain ⟨vp,hv⟩:∃ vp,preF l day kn pap 1=vp:=⟨_,rfl⟩
 have HV:Hid (orL [errI (ledB l) 24,errI (daysOk [day,kn]) 6,errI (folB l.pp pap 1) 26]=vp):=by show _=_;exact hv
 obtain ⟨W0,hW0⟩:∃ W0,W0=(w.alloc (.cells #[.slice pA pn pc,.slice rA rn rc,.slice tA tn tc,.slice sA sn sc] 32)):=⟨_,rfl⟩
 have HC0:Below w.heap.size w W0:=by rw [hW0];exact bel_
 have bL:BoxA W0 w.heap.size 32 #[.slice pA pn pc,.slice rA rn rc,.slice tA tn tc,.slice sA sn sc]:=by rw [hW0];exact BoxA.new _ _ _
 have HW0:=hd_ hW0
 have HVP:=hd_ hv
 clear hW0 hv
 go_enter Tryz.func14,Tryz.ntmps14
 go_wp2
 refine wp_named2 fun f1 V1 hf1 hV1=>?_
 obtain rfl:V1=W0:=by rw [← hV1,HW0.out]
 clear hV1
 refine wp_cut2 (fun a' W'=>IsFr2 (fun u=>{ tmps:=#[.agg #[.slice pA pn pc,.slice rA rn rc,.slice tA tn tc,.slice sA sn sc],.slice D m c0,.int .i64 pap,.int .i64 day,.int .i64 kn,.pointer (some ⟨w.heap.size,0,none⟩),u 6,u 7,u 8,u 9,.slice none 0 0,.int .i64 0,.int .i64 vp,u 13,u 14,u 15,u 16,u 17,u 18,u 19,u 20,u 21,u 22,u 23,u 24,u 25,u 26,u 27,u 28,u 29,u 30,u 31,u 32,u 33,u 34,u 35,u 36,u 37,u 38,u 39,u 40,u 41,u 42,u 43,u 44,u 45,u 46,u 47,u 48,u 49,u 50,u 51,u 52,u 53,u 54,u 55,u 56,u 57,u 58,u 59,u 60,u 61,u 62,u 63,u 64,u 65,u 66,u 67,u 68,u 69,u 70,u 71,u 72,u 73,u 74],defers:=[] }) a'∧Below w.heap.size w W'∧(∀ o,W'.cell? ⟨w.heap.size,o,none⟩=(#[.slice pA pn pc,.slice rA rn rc,.slice tA tn tc,.slice sA sn sc]:Array Value)[o]?)∧w.heap.size<W'.heap.size) ?reg ?rest
 case reg =>
  subst hf1
  have HC:Below w.heap.size w V1.drew:=HC0.drew
  have zL:w.heap.size<V1.heap.size:=bL.lt
  (refine wp_region_sink_lit (S:=S1 w.heap.size w.heap.size #[.slice pA pn pc,.slice rA rn rc,.slice tA tn tc,.slice sA sn sc] #[.slice pA pn pc,.slice rA rn rc,.slice tA tn tc,.slice sA sn sc]) 11 (by kernel_rfl) rfl rfl (by kernel_rfl) (by kernel_rfl) ⟨bL.cell,bL.cell,zL,zL⟩ (fun hS=>?_);simp only [List.take_succ_cons,List.take_zero,List.reduceReplicate,Array.replicate_succ,Array.replicate_zero])
  (refine tk_ (i:=0) (v:=?_) rfl ?_ hS ?_;rotate_left;focus (intro w2 hw2;(try unfold S1 at hw2);go_split_ands;go_simp;first | done | with_reducible rfl);(try simp only [Act.put,pu1,pu2,pu3]))
  (refine tk_ (i:=2) (v:=?_) rfl ?_ hS ?_;rotate_left;focus (intro w2 hw2;(try unfold S1 at hw2);go_split_ands;go_simp;first | done | with_reducible rfl);(try simp only [Act.put,pu1,pu2,pu3]))
  (refine tk_ (i:=3) (v:=?_) rfl ?_ hS ?_;rotate_left;focus (intro w2 hw2;(try unfold S1 at hw2);go_split_ands;go_simp;first | done | with_reducible rfl);(try simp only [Act.put,pu1,pu2,pu3]))
  (refine tk_ (i:=6) (v:=?_) rfl ?_ hS ?_;rotate_left;focus (intro w2 hw2;(try unfold S1 at hw2);go_split_ands;go_simp;first | done | with_reducible rfl);(try simp only [Act.put,pu1,pu2,pu3]))
  (refine tk_ (i:=7) (v:=?_) rfl ?_ hS ?_;rotate_left;focus (intro w2 hw2;(try unfold S1 at hw2);go_split_ands;go_simp;first | done | with_reducible rfl);(try simp only [Act.put,pu1,pu2,pu3]))
  refine rd_ [1,4] ?_
  refine AllReadyH.cons rfl (fun K hK=>?_) (AllReadyH.cons rfl (fun K hK=>?_) AllReadyH.nil)
  ·(go_simp;go_at_call 12;refine (p_Check l ⟨pA,pn,pc,rA,rn,rc,tA,tn,tc,sA,sn,sc⟩ _ hpn hrn htn hsn (HD.out.now HC)).mono ?_;rintro e v1 ⟨rfl,hb⟩;go_simp)
   have HC:=bt_ HC hb
   refine hK.out _ _ (S1.ext hb hS) (fun hS=>?_)
   clear hK K hb
   (try simp only [Act.put,pu1,pu2,pu3])
   refine rd_ [4] ?_
   refine ah1 rfl fun K hK=>?_
   go_simp
   have hAr:=BoxA.new (v1) 3 #[.int .i64 day,.int .i64 kn]
   have HC:=HC.alloc HC.size (.cells #[.int .i64 day,.int .i64 kn] 3)
   refine hK.out _ _ (S1.ext ((Below.refl _ _).alloc lr_ _) hS) (fun hS=>?_)
   clear hK K
   (try simp only [Act.put,pu1,pu2,pu3])
   refine rd_ [5] ?_
   refine ah1 rfl fun K hK=>?_
   (go_simp;go_at_call 63;refine (p_checkDays [day,kn] _ 2 2 _ (by decide) (is_box hAr rfl)).mono ?_;rintro e v3 ⟨rfl,hb⟩;go_simp)
   have HC:=bt_ HC hb
   have hAr:=hAr.ext hb
   refine hK.out _ _ (S1.ext hb hS) (fun hS=>?_)
   clear hK K hb
   (try simp only [Act.put,pu1,pu2,pu3])
   refine rd_ [8] ?_
   refine ah1 rfl fun K hK=>?_
   (go_simp;go_at_call 66;refine (p_checkPaper2 l.pp ⟨pA,pn,pc,rA,rn,rc,tA,tn,tc,sA,sn,sc⟩ pap _ hpn (HD.out.now HC).p).mono ?_;rintro e v4 ⟨rfl,hb⟩;go_simp)
   have HC:=bt_ HC hb
   have hAr:=hAr.ext hb
   refine hK.out _ _ (S1.ext hb hS) (fun hS=>?_)
   clear hK K hb
   (try simp only [Act.put,pu1,pu2,pu3])
   refine rd_ [9] ?_
   refine ah1 rfl fun K hK=>?_
   go_simp
   have HCX:=HC.alloc HC.size (.cells #[.int .i64 (errI (ledB l) 24),.int .i64 (errI (daysOk [day,kn]) 6),.int .i64 (errI (folB l.pp pap 1) 26)] 39)
   refine hK.out _ _ (S1.ext ((Below.refl _ _).alloc lr_ _) hS) (fun hS=>?_)
   clear hK K
   (try simp only [Act.put,pu1,pu2,pu3])
   refine rd_ [10] ?_
   refine ah1 rfl fun K hK=>?_
   (go_simp;go_at_call 62;refine (p_first [errI (ledB l) 24,errI (daysOk [day,kn]) 6,errI (folB l.pp pap 1) 26] vp _ 3 3 _ (by decide) (Rd.new _ #[.int .i64 (errI (ledB l) 24),.int .i64 (errI (daysOk [day,kn]) 6),.int .i64 (errI (folB l.pp pap 1) 26)] _ 1 3 _ (by simp) rfl) HV.out).mono ?_;rintro e w9 ⟨rfl,rfl⟩;go_simp)
   refine hK.out _ _ hS (fun hS=>?_)
   clear hK K
   (try simp only [Act.put,pu1,pu2,pu3])
   refine wpAnyH_done (by kernel_rfl) ?_ _
   simp only [sinkQ]
   go_simp
   refine ⟨IsFr2.of rfl,HCX,fun o=>?_,hS.2.2.1⟩
   have h:=hS.1 o
   simpa using h
  ·go_simp
   have hAr:=BoxA.new (V1.drew) 3 #[.int .i64 day,.int .i64 kn]
   have HC:=HC.alloc HC.size (.cells #[.int .i64 day,.int .i64 kn] 3)
   refine hK.out _ _ (S1.ext ((Below.refl _ _).alloc lr_ _) hS) (fun hS=>?_)
   clear hK K
   (try simp only [Act.put,pu1,pu2,pu3])
   refine rd_ [1] ?_
   refine ah1 rfl fun K hK=>?_
   (go_simp;go_at_call 12;refine (p_Check l ⟨pA,pn,pc,rA,rn,rc,tA,tn,tc,sA,sn,sc⟩ _ hpn hrn htn hsn (HD.out.now HC)).mono ?_;rintro e v6 ⟨rfl,hb⟩;go_simp)
   have HC:=bt_ HC hb
   have hAr:=hAr.ext hb
   refine hK.out _ _ (S1.ext hb hS) (fun hS=>?_)
   clear hK K hb
   (try simp only [Act.put,pu1,pu2,pu3])
   refine rd_ [5] ?_
   refine ah1 rfl fun K hK=>?_
   (go_simp;go_at_call 63;refine (p_checkDays [day,kn] _ 2 2 _ (by decide) (is_box hAr rfl)).mono ?_;rintro e v7 ⟨rfl,hb⟩;go_simp)
   have HC:=bt_ HC hb
   have hAr:=hAr.ext hb
   refine hK.out _ _ (S1.ext hb hS) (fun hS=>?_)
   clear hK K hb
   (try simp only [Act.put,pu1,pu2,pu3])
   refine rd_ [8] ?_
   refine ah1 rfl fun K hK=>?_
   (go_simp;go_at_call 66;refine (p_checkPaper2 l.pp ⟨pA,pn,pc,rA,rn,rc,tA,tn,tc,sA,sn,sc⟩ pap _ hpn (HD.out.now HC).p).mono ?_;rintro e v8 ⟨rfl,hb⟩;go_simp)
   have HC:=bt_ HC hb
   have hAr:=hAr.ext hb
   refine hK.out _ _ (S1.ext hb hS) (fun hS=>?_)
   clear hK K hb
   (try simp only [Act.put,pu1,pu2,pu3])
   refine rd_ [9] ?_
   refine ah1 rfl fun K hK=>?_
   go_simp
   have HCX:=HC.alloc HC.size (.cells #[.int .i64 (errI (ledB l) 24),.int .i64 (errI (daysOk [day,kn]) 6),.int .i64 (errI (folB l.pp pap 1) 26)] 39)
   refine hK.out _ _ (S1.ext ((Below.refl _ _).alloc lr_ _) hS) (fun hS=>?_)
   clear hK K
   (try simp only [Act.put,pu1,pu2,pu3])
   refine rd_ [10] ?_
   refine ah1 rfl fun K hK=>?_
   (go_simp;go_at_call 62;refine (p_first [errI (ledB l) 24,errI (daysOk [day,kn]) 6,errI (folB l.pp pap 1) 26] vp _ 3 3 _ (by decide) (Rd.new _ #[.int .i64 (errI (ledB l) 24),.int .i64 (errI (daysOk [day,kn]) 6),.int .i64 (errI (folB l.pp pap 1) 26)] _ 1 3 _ (by simp) rfl) HV.out).mono ?_;rintro e w9 ⟨rfl,rfl⟩;go_simp)
   refine hK.out _ _ hS (fun hS=>?_)
   clear hK K
   (try simp only [Act.put,pu1,pu2,pu3])
   refine wpAnyH_done (by kernel_rfl) ?_ _
   simp only [sinkQ]
   go_simp
   refine ⟨IsFr2.of rfl,HCX,fun o=>?_,hS.2.2.1⟩
   have h:=hS.1 o
   simpa using h
 case rest =>
  clear hf1 bL HC0
  rintro a' W' ⟨⟨u,rfl⟩,HB2,kL2,zL2⟩
  have hs2:=HB2.size
  by_cases hv0:vp=0
  ·subst hv0
   have HLO:=hd_ (led_ok (preF_zero HVP.out))
   obtain ⟨ve,hve⟩:∃ ve,trueE l kn days=ve:=⟨_,rfl⟩
   by_cases he:ve=0
   ·subst he
    obtain ⟨n,hn,hn30⟩:=lv_range HLO.out pap
    have hres:placedX l days pap day kn=((List.range n).map (whoP l kn day pap days),0):=by rw [placedX,if_pos HVP.out,if_pos hve,hn,Int.toNat_natCast]
    have HRES:=hd_ hres
    have HTE:=hd_ hve
    have HDL:=hd_ (true_len hve)
    have HLN:=hd_ hn
    have hmk:=make_int n (by omega)
    clear hres hve
    go_wp2_with (first | (go_at_call 64;refine (p_openA l ⟨pA,pn,pc,rA,rn,rc,tA,tn,tc,sA,sn,sc⟩ kn _ HLO.out (HD.out.now HB2)).mono ?_;rintro e w5 ⟨RA,Rn,Rc,SA,Sn,Sc,bm,TA,Tn,Tc,PA,Pn,Pc,rfl,hb5,hO⟩;have HB5:Below w.heap.size w w5:=bt_ HB2 hb5;have hs5:=HB5.size;have HO:=hd_ hO;have kL5:∀ o,w5.cell? ⟨w.heap.size,o,none⟩=(#[.slice pA pn pc,.slice rA rn rc,.slice tA tn tc,.slice sA sn sc]:Array Value)[o]?:=(fun o=>(hb5.cell (p:=⟨w.heap.size,o,none⟩) zL2).trans (kL2 o));have zL5:w.heap.size<w5.heap.size:=Nat.lt_of_lt_of_le zL2 hb5.size;clear kL2 hO hb5) | (go_at_call 65;refine (p_checkTrue0 l kn days D m c0 ⟨⟨pA,pn,pc,rA,rn,rc,tA,tn,tc,sA,sn,sc⟩,kn,RA,Rn,Rc,SA,Sn,Sc,bm,TA,Tn,Tc,PA,Pn,Pc⟩ w5 HLO.out HO.out hm (HDY.out.now HB5) HTE.out).mono ?_;rintro e w6 ⟨PA2,Pc2,rfl,hb6,hbx6,hac6⟩;have HB6:Below w.heap.size w w6:=bt_ HB5 hb6;have hs6:=HB6.size;have hs56:=hb6.size;have k6:=hbx6.cell;have z6:=hbx6.lt;have HAC:=hd_ hac6;have HBX:=hd_ hbx6;have kL6:∀ o,w6.cell? ⟨w.heap.size,o,none⟩=(#[.slice pA pn pc,.slice rA rn rc,.slice tA tn tc,.slice sA sn sc]:Array Value)[o]?:=(fun o=>(hb6.cell (p:=⟨w.heap.size,o,none⟩) zL5).trans (kL5 o));have zL6:w.heap.size<w6.heap.size:=Nat.lt_of_lt_of_le zL5 hb6.size;clear kL5 hac6 hb6 hbx6) | (go_at_call 67;refine (p_leaves l.pp ⟨pA,pn,pc,rA,rn,rc,tA,tn,tc,sA,sn,sc⟩ pap _ hpn (HD.out.now HB6).p).mono ?_;rintro e w7 ⟨rfl,hb7⟩;have HB7:Below w.heap.size w w7:=HB6.trans (hb7.mono hs6);have hs67:=hb7.size;have HBX7:=hd_ (HBX.out.ext hb7);have HAC7:=hd_ (HAC.out.now hb7);clear hb7 kL6 zL6 k6 z6))
    have hnl:lvOf l.pp pap=(n:Int):=HLN.out
    have hac7:=HAC7.out
    have hlm:days.length=m:=HDY.out.len
    have hPn:Pn=l.rt.length:=HO.out.pn
    have HLM:=hd_ hlm
    have HPN:=hd_ hPn
    clear hlm hPn
    go_loopw [46] (fun i wr=>∃ k:Nat,k≤n∧i=.int .i64 k∧BoxA wr w7.heap.size 3 (intL (whPL l kn day pap days n k)).toArray∧Below w7.heap.size w7 wr) (fun i _=>n - (intOf i).toNat)
    case atStart =>
     exact ⟨0,by omega,rfl,by rw [whPL_zero];exact BoxA.new w7 _ _,by exact bel_⟩
    case round =>
     obtain ⟨k,hk,rfl,bQ,hB⟩:=hrel
     have hsB:=hB.size
     have bAw:=HBX7.out.ext hB
     have kAw:=bAw.cell
     have zAw:=bAw.lt
     have zQ:=bQ.lt
     have HACw:=hd_ (hac7.now hB)
     by_cases hlt:k<n
     ·have hwf:(Lit.int .i64 ((k:Int)+1)).wf=true:=wf_small (by omega) (by omega)
      have hwr:IntKind.i64.wrap ((k:Int)+1)=(k:Int)+1:=IntWalk.i64_in _ (by omega)
      obtain ⟨⟨sp,sb⟩,hst⟩:∃ st,stayP (opnL l kn).M (cntR l kn) pap ((k:Int)+1) day=st:=⟨_,rfl⟩
      have hback:=stayP_back (M:=(opnL l kn).M) (R:=cntR l kn) (pap:=pap) (leaf:=(k:Int)+1) (day:=day) HACw.out.mP
      rw [hst] at hback
      have HST:=hd_ hst
      have hW:whoP l kn day pap days k=if sb<0∨day<days.getD sb.toNat 0 then sp else 0:=by rw [whoP,hst]
      have hcellk:∃ u,(intL (whPL l kn day pap days n k)).toArray[k]?=some u:=⟨_,Array.getElem?_eq_getElem (by simp [intL];rw [whPL_len l kn day pap days hk];exact hlt)⟩
      obtain ⟨u0,hu0⟩:=hcellk
      clear hst
      rcases hback with hb | ⟨ix,hix,hb⟩
      ·have hb:sb=-1:=hb
       subst hb
       have hw1:whoP l kn day pap days k=sp:=by rw [hW,if_pos (.inl (by decide))]
       have HS:=hd_ (whPL_succ l kn day pap days hlt)
       have HW1:=hd_ hw1
       clear hW hw1
       go_wp2_with (go_at_call 68;refine (p_stayA _ _ _ ⟨⟨pA,pn,pc,rA,rn,rc,tA,tn,tc,sA,sn,sc⟩,kn,RA,Rn,Rc,SA,Sn,Sc,bm,TA,Tn,Tc,PA2,Pn,Pc2⟩ pap ((k:Int)+1) day _ wr HACw.out hwf HST.out).mono ?_;rintro e w8 ⟨rfl,hb8⟩;have hs8:=hb8.size;have bQ8:=bQ.ext hb8;have kQ8:=bQ8.cell;have zQ8:=bQ8.lt;have fQ8:=bQ8.frozen;have HBQ8:=hd_ bQ8;have HB8:=hd_ hb8;have cQ:=(kQ8 k).trans hu0;clear bQ8 hb8)
       go_roundw
       case rel=>exact ⟨k+1,by omega,by go_num,by rw [HS.out,HW1.out];exact (HBQ8.out.setI k sp).alloc _,((hB.trans (HB8.out.mono hsB)).setCell (show w7.heap.size≤(⟨w7.heap.size,k,none⟩:Addr).block from lr_) _).alloc (by simp;omega) _⟩
       case measure=>exact ms_
      ·have hb:sb=(ix:Int):=hb
       subst hb
       have hixm:ix<m:=by have h1:=HLM.out;have h2:=HPN.out;have h3:=HDL.out;have h4:ix<Pn:=hix;omega
       obtain ⟨bd,od,x,hD,hbd,hxd,hcd⟩:=(HDY.out.now (HB7.trans (hB.mono (by omega)))).at_ hixm
       have hD':D=some ⟨bd,od,none⟩:=hD
       subst hD'
       have hgx:days.getD ((ix:Int)).toNat 0=x:=by rw [List.getD_eq_getElem?_getD,Int.toNat_natCast,hxd];rfl
       rw [hgx] at hW
       have hnn:¬ ((ix:Int)<0):=by omega
       by_cases hgt:day<x
       ·have hw1:whoP l kn day pap days k=sp:=by rw [hW,if_pos (.inr hgt)]
        have HS:=hd_ (whPL_succ l kn day pap days hlt)
        have HW1:=hd_ hw1
        clear hW hw1 hgx hxd hD
        go_wp2_with (go_at_call 68;refine (p_stayA _ _ _ ⟨⟨pA,pn,pc,rA,rn,rc,tA,tn,tc,sA,sn,sc⟩,kn,RA,Rn,Rc,SA,Sn,Sc,bm,TA,Tn,Tc,PA2,Pn,Pc2⟩ pap ((k:Int)+1) day _ wr HACw.out hwf HST.out).mono ?_;rintro e w8 ⟨rfl,hb8⟩;have hs8:=hb8.size;have bQ8:=bQ.ext hb8;have kQ8:=bQ8.cell;have zQ8:=bQ8.lt;have fQ8:=bQ8.frozen;have HBQ8:=hd_ bQ8;have HB8:=hd_ hb8;have cQ:=(kQ8 k).trans hu0;have cD:=(HB8.out.cell (p:=⟨bd,od+ix,none⟩) hbd).trans hcd;have zD:=Nat.lt_of_lt_of_le hbd hs8;clear bQ8 hb8)
        go_roundw
        case rel=>exact ⟨k+1,by omega,by go_num,by rw [HS.out,HW1.out];exact (HBQ8.out.setI k sp).alloc _,((hB.trans (HB8.out.mono hsB)).setCell (show w7.heap.size≤(⟨w7.heap.size,k,none⟩:Addr).block from lr_) _).alloc (by simp;omega) _⟩
        case measure=>exact ms_
       ·have hw1:whoP l kn day pap days k=0:=by rw [hW,if_neg (fun h=>h.elim hnn hgt)]
        have HS:=hd_ (whPL_same l kn day pap days hlt hw1)
        have hgf:decide (x>day)=false:=by simp;omega
        have hnn2:decide ((ix:Int)<0)=false:=by simp
        clear hW hw1 hgx hxd hD hu0 hgt hnn
        go_wp2_with (go_at_call 68;refine (p_stayA _ _ _ ⟨⟨pA,pn,pc,rA,rn,rc,tA,tn,tc,sA,sn,sc⟩,kn,RA,Rn,Rc,SA,Sn,Sc,bm,TA,Tn,Tc,PA2,Pn,Pc2⟩ pap ((k:Int)+1) day _ wr HACw.out hwf HST.out).mono ?_;rintro e w8 ⟨rfl,hb8⟩;have hs8:=hb8.size;have bQ8:=bQ.ext hb8;have kQ8:=bQ8.cell;have zQ8:=bQ8.lt;have fQ8:=bQ8.frozen;have HBQ8:=hd_ bQ8;have HB8:=hd_ hb8;have cD:=(HB8.out.cell (p:=⟨bd,od+ix,none⟩) hbd).trans hcd;have zD:=Nat.lt_of_lt_of_le hbd hs8;clear kQ8 fQ8 zQ8;clear bQ8 hb8)
        go_roundw
        case rel=>exact ⟨k+1,by omega,by go_num,by rw [HS.out];exact HBQ8.out.alloc _,(hB.trans (HB8.out.mono hsB)).alloc (by omega) _⟩
        case measure=>exact ms_
     ·have hkn:Hid (k=n):=by show _=_;omega
      have HBQ:=hd_ bQ
      clear bQ
      go_wp2
      go_ret2
      rw [HRES.out]
      have hQ:=HBQ.out
      rw [hkn.out,whPL_all] at hQ
      exact ⟨_,_,_,rfl,HB7.trans (hB.mono (by omega)),is_box hQ (by simp),lr_,by unfold maxLen;omega⟩
   ·have hres:placedX l days pap day kn=([],ve):=by rw [placedX,if_pos HVP.out,if_neg (by rw [hve];exact he),hve]
    have HRES:=hd_ hres
    have HTE:=hd_ hve
    have HVE:=hd_ he
    have hed:(ve != 0)=true:=by simpa using he
    clear hres hve he
    go_wp2_with (first | (go_at_call 64;refine (p_openA l ⟨pA,pn,pc,rA,rn,rc,tA,tn,tc,sA,sn,sc⟩ kn _ HLO.out (HD.out.now HB2)).mono ?_;rintro e w5 ⟨RA,Rn,Rc,SA,Sn,Sc,bm,TA,Tn,Tc,PA,Pn,Pc,rfl,hb5,hO⟩;have HB5:Below w.heap.size w w5:=bt_ HB2 hb5;have hs5:=HB5.size;have HO:=hd_ hO;have kL5:∀ o,w5.cell? ⟨w.heap.size,o,none⟩=(#[.slice pA pn pc,.slice rA rn rc,.slice tA tn tc,.slice sA sn sc]:Array Value)[o]?:=(fun o=>(hb5.cell (p:=⟨w.heap.size,o,none⟩) zL2).trans (kL2 o));have zL5:w.heap.size<w5.heap.size:=Nat.lt_of_lt_of_le zL2 hb5.size;clear kL2 hO hb5) | (go_at_call 65;refine (p_checkTrueN l kn days D m c0 ⟨⟨pA,pn,pc,rA,rn,rc,tA,tn,tc,sA,sn,sc⟩,kn,RA,Rn,Rc,SA,Sn,Sc,bm,TA,Tn,Tc,PA,Pn,Pc⟩ ve w5 HLO.out HO.out hm (HDY.out.now HB5) HTE.out HVE.out).mono ?_;rintro e w6 ⟨rfl,hb6⟩;have HB6:Below w.heap.size w w6:=bt_ HB5 hb6;have hs6:=HB6.size))
    go_ret2
    rw [HRES.out]
    exact RetLE.err HB6
  ·have hres:placedX l days pap day kn=([],vp):=by rw [placedX,if_neg (by rw [HVP.out];exact hv0),HVP.out]
   have HRES:=hd_ hres
   have hv1:(vp != 0)=true:=by simpa using hv0
   clear hres hv0
   go_wp2
   go_ret2
   rw [HRES.out]
   exact RetLE.err HB2
end Go.Proofs.YtmcmbicapdcfmaaGreat
