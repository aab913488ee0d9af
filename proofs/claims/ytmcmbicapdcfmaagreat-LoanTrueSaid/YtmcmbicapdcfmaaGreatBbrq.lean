/- Layer 2 of the texts that LoanBack takes: Bbrq. -/
import Derived.Test.YtmcmbicapdcfmaaGreatBbpq
set_option linter.unusedVariables false
set_option linter.unusedSimpArgs false
set_option maxHeartbeats 16000000
namespace Go.Proofs.YtmcmbicapdcfmaaGreat
open Go.RowKit Go.Maps
set_option maxRecDepth 100000 in
theorem r_Made (x:Rsl) (r:RawL) (w:World) (hf:x.fit) (hd:RawIn w x r) :
 Calls Tryz.prog 22 #[.agg #[.slice x.aA x.an x.ac,.slice x.bA x.bn x.bc,.slice x.cA x.cn x.cc]] w (RetMade w):=by
 obtain ⟨aA,an,ac,bA,bn,bc,cA,cn,cc⟩:=x
 obtain ⟨iR,hiR,hz0R,hz1R,hz2R⟩:=info_parts infoClRcpt
 obtain ⟨iT,hiT,hz0T,hz1T,hz2T⟩:=info_parts infoClRetn
 obtain ⟨iS,hiS,hz0S,hz1S,hz2S⟩:=info_parts infoClSight
 obtain ⟨i0,hi,hz0,hz1,hz2⟩:=info_parts infoI2
 have HRA:Hid (Rd w w.heap.size 5 aA an (intL r.a)):=by show Rd _ _ _ _ _ _;exact hd.a
 have HRB:Hid (Rd w w.heap.size 7 bA bn (intL r.b)):=by show Rd _ _ _ _ _ _;exact hd.b
 have HRC:Hid (Rd w w.heap.size 5 cA cn (intL r.c)):=by show Rd _ _ _ _ _ _;exact hd.c
 have hml:maxLen≤9223372036854775807:=by decide
 have han:an≤9223372036854775807:=by have:=hf.a;dsimp only at this;omega
 have hbn:bn≤9223372036854775807:=by have:=hf.b;dsimp only at this;omega
 have hcn:cn≤9223372036854775807:=by have:=hf.c;dsimp only at this;omega
 clear hd hf hml
 go_enter Tryz.func22,Tryz.ntmps22
 go_wp2_with fail
 refine wp_named2 fun f1 wv hf1 hwv=>?_
 have bX:BoxA wv w.heap.size 25 #[.slice aA an ac,.slice bA bn bc,.slice cA cn cc]:=by (rw [← hwv];simp only [boxed_iff,boxa_iff,alloc_get,drew_heap,World.size_alloc];(repeat (first | rw [if_pos trivial] | rw [if_pos (by omega)] | rw [if_neg (by omega)])))
 have bR:BoxA wv (w.heap.size+1) 32 #[.slice none 0 0,.slice none 0 0,.slice none 0 0,.slice none 0 0]:=by (rw [← hwv];simp only [boxed_iff,boxa_iff,alloc_get,drew_heap,World.size_alloc];(repeat (first | rw [if_pos trivial] | rw [if_pos (by omega)] | rw [if_neg (by omega)])))
 have bP:BoxA wv (w.heap.size+1+1) 38 #[.int .i64 1,.int .i64 4,.int .i64 2,.int .i64 3,.int .i64 5,.int .i64 2]:=by (rw [← hwv];simp only [boxed_iff,boxa_iff,alloc_get,drew_heap,World.size_alloc];(repeat (first | rw [if_pos trivial] | rw [if_pos (by omega)] | rw [if_neg (by omega)])))
 have bO:BoxA wv (w.heap.size+1+1+1) 32 #[.slice (some ⟨w.heap.size+1+1,0,none⟩) 3 3,.slice none 0 0,.slice none 0 0,.slice none 0 0]:=by (rw [← hwv];simp only [boxed_iff,boxa_iff,alloc_get,drew_heap,World.size_alloc];(repeat (first | rw [if_pos trivial] | rw [if_pos (by omega)] | rw [if_neg (by omega)])))
 have hBV:Below w.heap.size w wv:=by rw [← hwv];exact bel_
 have hsv:=bO.lt
 have HXV:=hd_ bX
 have HRV:=hd_ bR
 have HPV:=hd_ bP
 have HOV:=hd_ bO
 have HBV:=hd_ hBV
 have hwv1:w.heap.size≤wv.heap.size:=by omega
 have hqq:w.heap.size≤(w.heap.size+1+1+1)∧(w.heap.size+1+1+1)<wv.heap.size:=⟨by omega,by omega⟩
 clear hwv bX bR bP bO hBV
 subst hf1
 go_loopw [6,7] (fun dy i wr=>∃ (kR:Nat) (d:Int) (RV:List Rv) (AR:Option Addr) (cR:Nat),kR≤8∧i=.int .i64 (kR:Int)∧dy=.int .i64 d∧RV.length=kR∧0≤d∧d≤20*kR∧MdI w wv wr (w.heap.size+1+1+1) #[.slice (some ⟨w.heap.size+1+1,0,none⟩) 3 3,.slice AR kR cR,.slice none 0 0,.slice none 0 0] kR (.slice AR kR cR) RV 0 (.slice none 0 0) [] 0 (.slice none 0 0) [] 0 (.slice none 0 0) []∧MkOk d ⟨mPp,RV.map Rv.r,[],[]⟩ []) (fun _ i _=>8 - (intOf i).toNat)
 case atStart=>exact ⟨0,0,[],none,0,by omega,rfl,rfl,rfl,by omega,by omega,⟨⟨HBV.out,fun _ _ _=>rfl,lr_,HOV.out,World.ownsRow_nil _ _ _ _,World.ownsRow_nil _ _ _ _,World.ownsRow_nil _ _ _ _⟩,World.ownsRow_nil _ _ _ _,fun z hz=>absurd hz (by simp),fun z hz=>absurd hz (by simp)⟩,mk0⟩
 case round =>
  obtain ⟨kR,d,RV,AR,cR,hK8,rfl,rfl,hlen,hd0,hd1,hI,hM⟩:=hrel
  have hsz:=hI.wo.sz
  have bX:BoxA wr w.heap.size 25 #[.slice aA an ac,.slice bA bn bc,.slice cA cn cc]:=(hI.wo.keep _ (by omega) (by omega)).trans HXV.out
  have bP:BoxA wr (w.heap.size+1+1) 38 #[.int .i64 1,.int .i64 4,.int .i64 2,.int .i64 3,.int .i64 5,.int .i64 2]:=(hI.wo.keep _ (by omega) (by omega)).trans HPV.out
  have bO:BoxA wr (w.heap.size+1+1+1) 32 #[.slice (some ⟨w.heap.size+1+1,0,none⟩) 3 3,.slice AR kR cR,.slice none 0 0,.slice none 0 0]:=hI.wo.bO
  have hBW:Below w.heap.size w wr:=hI.wo.bel
  have kX:=bX.cell
  have zX:=bX.lt
  have kO:=bO.cell
  have zO:=bO.lt
  have HX:=hd_ bX
  have HP:=hd_ bP
  have HOB:=hd_ bO
  have HBW:=hd_ hBW
  have HI:=hd_ hI
  have HM:=hd_ hM
  clear hI bX bP bO hM hBW
  go_upto_region 5 with fail
  go_cut [33] from 25 to 25 (fun c wx=>c=.bool (decide (kR<an) && decide (kR<8))∧wx=wr)
  case first =>
   by_cases h1:kR<an
   ·by_cases h2:kR<8
    ·go_wp2_with fail
     go_meet
     exact ⟨by first | (simp [h1,h2];done) | (simp [h1,h2];omega),rfl⟩
    ·go_wp2_with fail
     go_meet
     exact ⟨by first | (simp [h1,h2];done) | (simp [h1,h2];omega),rfl⟩
   ·go_wp2_with fail
    go_meet
    exact ⟨by first | (simp [h1];done) | (simp [h1];omega),rfl⟩
  case rest =>
  obtain ⟨rfl,hwc⟩:=hcut
  obtain rfl:wr=wc:=hwc.symm
  cases hC:(decide (kR<an) && decide (kR<8)) with
  | true =>
    simp only [Bool.and_eq_true,decide_eq_true_eq] at hC
    obtain ⟨hKa,hK8'⟩:=hC
    obtain ⟨b,o,hA,hb,hec⟩:=raw_at HRA.out hKa
    have hec2:∀ j,j<5→wr.cell? ⟨b,o+kR*5+j,none⟩=some (.int .i64 (r.a.getD (kR*5+j) 0)):=fun j hj=>(HBW.out.cell (p:=⟨b,o+kR*5+j,none⟩) hb).trans (hec j hj)
    have hbr:b<wr.heap.size:=by have:=HBW.out.size;omega
    obtain ⟨n0,hn0⟩:∃ n,r.a.getD (kR*5+0) 0=n:=⟨_,rfl⟩
    obtain ⟨n1,hn1⟩:∃ n,r.a.getD (kR*5+1) 0=n:=⟨_,rfl⟩
    obtain ⟨n2,hn2⟩:∃ n,r.a.getD (kR*5+2) 0=n:=⟨_,rfl⟩
    obtain ⟨n3,hn3⟩:∃ n,r.a.getD (kR*5+3) 0=n:=⟨_,rfl⟩
    obtain ⟨n4,hn4⟩:∃ n,r.a.getD (kR*5+4) 0=n:=⟨_,rfl⟩
    have e0:=hec2 0 (by decide)
    have e1:=hec2 1 (by decide)
    have e2:=hec2 2 (by decide)
    have e3:=hec2 3 (by decide)
    have e4:=hec2 4 (by decide)
    rw [hn0,Nat.add_zero] at e0
    rw [hn1] at e1
    rw [hn2] at e2
    rw [hn3] at e3
    rw [hn4] at e4
    subst hA
    clear hec hec2 hn0 hn1 hn2 hn3 hn4
    go_upto_region 8 with fail
    refine wp_named2 fun f2 W1 hf2 hW1=>?_
    have bN:BoxA W1 wr.heap.size 68 #[.int .i64 n0,.int .i64 n1,.int .i64 n2,.int .i64 n3,.int .i64 n4]:=by rw [← hW1];exact BoxA.new _ _ _
    have h1:Below wr.heap.size wr W1:=by rw [← hW1];exact bel_
    have hs1:=h1.size
    have bO1:=HOB.out.ext h1
    have bP1:=HP.out.ext h1
    have HI1:=hd_ (HI.out.ext h1)
    have HBN:=hd_ bN
    have HOB1:=hd_ bO1
    have HP1:=hd_ bP1
    have hPlt:=bP1.lt
    clear hW1 e0 e1 e2 e3 e4 kX zX kO zO bN bO1 bP1
    subst hf2
    obtain ⟨m,hm,hm3⟩:=mod_nat n1 (m:=3) (by decide)
    obtain ⟨p,hp,hpm,hpl1,hpl4,hpi1,hpi5⟩:=pp_at hm3
    have HEC:=hd_ (pp_cells HP1.out hp)
    obtain ⟨pid,plv⟩:=p
    dsimp only at hpl1 hpl4 hpi1 hpi5
    have HMM:=hd_ hm
    have HPM:=hd_ hpm
    clear hm hp hpm
    go_cut [9] from 25 to 25 (fun c wx=>∃ B,c=.pointer (some ⟨B,0,none⟩)∧W1.heap.size≤B∧Below W1.heap.size W1 wx∧BoxA wx B 38 #[.int .i64 pid,.int .i64 plv])
    case first =>
     as_aux_lemma =>
      (refine wp_region_sink_lit (S:=KE wr.heap.size (w.heap.size+1+1+1) #[.int .i64 n0,.int .i64 n1,.int .i64 n2,.int .i64 n3,.int .i64 n4] #[.slice (some ⟨w.heap.size+1+1,0,none⟩) 3 3,.slice AR kR cR,.slice none 0 0,.slice none 0 0] (w.heap.size+1+1) (m*2) (ppC ⟨pid,plv⟩)) 8 (by kernel_rfl) rfl rfl (by kernel_rfl) (by kernel_rfl) ⟨⟨HBN.out.cell,HOB1.out.cell,HBN.out.lt,HOB1.out.lt⟩,hPlt,HEC.out⟩ (fun hS=>?_);simp only [List.take_succ_cons,List.take_zero,List.reduceReplicate,Array.replicate_succ,Array.replicate_zero])
      refine wpAnyH_abs (fun _ _ _ _ _ h=>h) (by kernel_rfl) (fun L Q HL HQ HP HN=>?_)
      (refine wpAnyH_takeL (i:=0) (v:=?_) HL HP HN rfl (by kernel_rfl) (by kernel_rfl) rfl ?_ hS ?_;rotate_left;focus (intro w2 hw2;obtain ⟨⟨x1,x2,z1,z2⟩,z3,hec⟩:=hw2;have g0:=hec 0 _ rfl;have g1:=hec 1 _ rfl;simp only [Nat.add_zero] at g0;clear hec;go_simp;first | done | with_reducible rfl);(try simp only [Act.put,pu1,pu2,pu3]))
      (refine wpAnyH_takeL (i:=1) (v:=?_) HL HP HN rfl (by kernel_rfl) (by kernel_rfl) rfl ?_ hS ?_;rotate_left;focus (intro w2 hw2;obtain ⟨⟨x1,x2,z1,z2⟩,z3,hec⟩:=hw2;have g0:=hec 0 _ rfl;have g1:=hec 1 _ rfl;simp only [Nat.add_zero] at g0;clear hec;go_simp;first | done | with_reducible rfl);(try simp only [Act.put,pu1,pu2,pu3]))
      (refine wpAnyH_takeL (i:=2) (v:=?_) HL HP HN rfl (by kernel_rfl) (by kernel_rfl) rfl ?_ hS ?_;rotate_left;focus (intro w2 hw2;obtain ⟨⟨x1,x2,z1,z2⟩,z3,hec⟩:=hw2;have g0:=hec 0 _ rfl;have g1:=hec 1 _ rfl;simp only [Nat.add_zero] at g0;clear hec;go_simp;first | done | with_reducible rfl);(try simp only [Act.put,pu1,pu2,pu3]))
      (refine wpAnyH_takeL (i:=3) (v:=?_) HL HP HN rfl (by kernel_rfl) (by kernel_rfl) rfl ?_ hS ?_;rotate_left;focus (intro w2 hw2;obtain ⟨⟨x1,x2,z1,z2⟩,z3,hec⟩:=hw2;have g0:=hec 0 _ rfl;have g1:=hec 1 _ rfl;simp only [Nat.add_zero] at g0;clear hec;go_simp;first | done | with_reducible rfl);(try simp only [Act.put,pu1,pu2,pu3]))
      refine wpAnyH_readyL (rs:=[4,7]) HL (by kernel_rfl) (by simp) ?_
      refine AllReadyH.consL HL rfl rfl (fun K hK=>?_) (AllReadyH.consL HL rfl rfl (fun K hK=>?_) AllReadyH.nil)
      ·skip
       (go_simp;go_at_call 11;refine (r_Mod_v n1 3 m _ (by decide) (by decide) HMM.out).mono ?_;rintro e w6 ⟨rfl,rfl⟩;go_simp)
       refine hK.out _ _ hS (fun hS=>?_)
       clear hK K
       (try simp only [Act.put,pu1,pu2,pu3])
       (refine wpAnyH_takeL (i:=5) (v:=?_) HL HP HN rfl (by kernel_rfl) (by kernel_rfl) rfl ?_ hS ?_;rotate_left;focus (intro w2 hw2;obtain ⟨⟨x1,x2,z1,z2⟩,z3,hec⟩:=hw2;have g0:=hec 0 _ rfl;have g1:=hec 1 _ rfl;simp only [Nat.add_zero] at g0;clear hec;go_simp;first | done | with_reducible rfl);(try simp only [Act.put,pu1,pu2,pu3]))
       (refine wpAnyH_takeL (i:=6) (v:=?_) HL HP HN rfl (by kernel_rfl) (by kernel_rfl) rfl ?_ hS ?_;rotate_left;focus (intro w2 hw2;obtain ⟨⟨x1,x2,z1,z2⟩,z3,hec⟩:=hw2;have g0:=hec 0 _ rfl;have g1:=hec 1 _ rfl;simp only [Nat.add_zero] at g0;clear hec;go_simp;first | done | with_reducible rfl);(try simp only [Act.put,pu1,pu2,pu3]))
       refine wpAnyH_readyL (rs:=[7]) HL (by kernel_rfl) (by simp) ?_
       refine AllReadyH.consL HL rfl rfl (fun K hK=>?_) AllReadyH.nil
       go_simp
       refine hK.out _ _ (KE.ext ((Below.refl _ _).alloc lr_ _) hS) (fun hS=>?_)
       clear hK K
       (try simp only [Act.put,pu1,pu2,pu3])
       refine wpAnyH_doneL HL HQ (by kernel_rfl) ?_ _
       simp only [sinkQ]
       go_simp
       go_wp2
       go_meet
       exact ⟨_,rfl,lr_,by exact bel_,BoxA.new _ _ _⟩
      ·skip
       go_simp
       refine hK.out _ _ (KE.ext ((Below.refl _ _).alloc lr_ _) hS) (fun hS=>?_)
       clear hK K
       (try simp only [Act.put,pu1,pu2,pu3])
       refine wpAnyH_readyL (rs:=[4]) HL (by kernel_rfl) (by simp) ?_
       refine AllReadyH.consL HL rfl rfl (fun K hK=>?_) AllReadyH.nil
       (go_simp;go_at_call 11;refine (r_Mod_v n1 3 m _ (by decide) (by decide) HMM.out).mono ?_;rintro e w6 ⟨rfl,rfl⟩;go_simp)
       refine hK.out _ _ hS (fun hS=>?_)
       clear hK K
       (try simp only [Act.put,pu1,pu2,pu3])
       (refine wpAnyH_takeL (i:=5) (v:=?_) HL HP HN rfl (by kernel_rfl) (by kernel_rfl) rfl ?_ hS ?_;rotate_left;focus (intro w2 hw2;obtain ⟨⟨x1,x2,z1,z2⟩,z3,hec⟩:=hw2;have g0:=hec 0 _ rfl;have g1:=hec 1 _ rfl;simp only [Nat.add_zero] at g0;clear hec;go_simp;first | done | with_reducible rfl);(try simp only [Act.put,pu1,pu2,pu3]))
       (refine wpAnyH_takeL (i:=6) (v:=?_) HL HP HN rfl (by kernel_rfl) (by kernel_rfl) rfl ?_ hS ?_;rotate_left;focus (intro w2 hw2;obtain ⟨⟨x1,x2,z1,z2⟩,z3,hec⟩:=hw2;have g0:=hec 0 _ rfl;have g1:=hec 1 _ rfl;simp only [Nat.add_zero] at g0;clear hec;go_simp;first | done | with_reducible rfl);(try simp only [Act.put,pu1,pu2,pu3]))
       refine wpAnyH_doneL HL HQ (by kernel_rfl) ?_ _
       simp only [sinkQ]
       go_simp
       go_wp2
       go_meet
       exact ⟨_,rfl,lr_,by exact bel_,BoxA.new _ _ _⟩
    case rest =>
    obtain ⟨B2,rfl,hB2,h2,bQ⟩:=hcut
    obtain ⟨W2,rfl⟩:∃ W2:World,W2=wc:=⟨_,rfl⟩
    have hs2:=h2.size
    have h12:Below wr.heap.size wr W2:=bt_ h1 h2
    have HN2:=hd_ (HBN.out.ext h2)
    have HO2:=hd_ (HOB1.out.ext h2)
    have HQ2:=hd_ bQ
    have hBr:wr.heap.size≤B2:=by omega
    obtain ⟨v3,hv3,hv3b⟩:=mod_nat n3 (m:=20) (by decide)
    obtain ⟨v0,hv0,hv0b⟩:=mod_nat n0 (m:=4) (by decide)
    obtain ⟨v4,hv4,hv4b⟩:=mod_nat n4 (m:=5) (by decide)
    have HV3:=hd_ hv3
    have HV0:=hd_ hv0
    have HV4:=hd_ hv4
    have kN:=HN2.out.cell
    have zN:=HN2.out.lt
    have hdk:d≤160:=by omega
    clear hv3 hv0 hv4 bQ HI1 HOB1 HBN HEC HP1
    go_upto_region 10 with ((go_at_call 11;refine (r_Mod_v n3 20 v3 _ (by decide) (by decide) HV3.out).mono ?_;rintro e w6 ⟨rfl,rfl⟩))
    clear kN zN
    have w30:IntKind.i64.wrap (3*(kR:Int))=3*(kR:Int):=wrap_in (by omega) (by omega)
    have w31:IntKind.i64.wrap (3*(kR:Int)+1)=3*(kR:Int)+1:=wrap_in (by omega) (by omega)
    have w32:IntKind.i64.wrap (1+(v0:Int))=1+(v0:Int):=wrap_in (by omega) (by omega)
    have w33:IntKind.i64.wrap (d+(v3:Int)+(v4:Int))=d+(v3:Int)+(v4:Int):=wrap_in (by omega) (by omega)
    (refine wp_region_sink_lit (S:=K3 wr.heap.size B2 (w.heap.size+1+1+1) #[.int .i64 n0,.int .i64 n1,.int .i64 n2,.int .i64 n3,.int .i64 n4] #[.int .i64 pid,.int .i64 plv] #[.slice (some ⟨w.heap.size+1+1,0,none⟩) 3 3,.slice AR kR cR,.slice none 0 0,.slice none 0 0]) 26 (by kernel_rfl) rfl rfl (by kernel_rfl) (by kernel_rfl) ⟨HN2.out.cell,HQ2.out.cell,HO2.out.cell,HN2.out.lt,HQ2.out.lt,HO2.out.lt⟩ (fun hS=>?_);simp only [List.take_succ_cons,List.take_zero,List.reduceReplicate,Array.replicate_succ,Array.replicate_zero])
    refine wpAnyH_abs (fun _ _ _ _ _ h=>h) (by kernel_rfl) (fun L Q HL HQ HP HN=>?_)
    (refine wpAnyH_takeL (i:=0) (v:=?_) HL HP HN rfl (by kernel_rfl) (by kernel_rfl) rfl ?_ hS ?_;rotate_left;focus (intro w2 hw2;obtain ⟨x1,x2,x3,z1,z2,z3⟩:=hw2;go_simp;first | done | with_reducible rfl);(try simp only [Act.put,pu1,pu2,pu3]))
    (refine wpAnyH_takeL (i:=1) (v:=?_) HL HP HN rfl (by kernel_rfl) (by kernel_rfl) rfl ?_ hS ?_;rotate_left;focus (intro w2 hw2;obtain ⟨x1,x2,x3,z1,z2,z3⟩:=hw2;go_simp;first | done | with_reducible rfl);(try simp only [Act.put,pu1,pu2,pu3]))
    (refine wpAnyH_takeL (i:=2) (v:=?_) HL HP HN rfl (by kernel_rfl) (by kernel_rfl) rfl ?_ hS ?_;rotate_left;focus (intro w2 hw2;obtain ⟨x1,x2,x3,z1,z2,z3⟩:=hw2;go_simp;first | done | with_reducible rfl);(try simp only [Act.put,pu1,pu2,pu3]))
    (refine wpAnyH_takeL (i:=3) (v:=?_) HL HP HN rfl (by kernel_rfl) (by kernel_rfl) rfl ?_ hS ?_;rotate_left;focus (intro w2 hw2;obtain ⟨x1,x2,x3,z1,z2,z3⟩:=hw2;go_simp;first | done | with_reducible rfl);(try simp only [Act.put,pu1,pu2,pu3]))
    (refine wpAnyH_takeL (i:=4) (v:=?_) HL HP HN rfl (by kernel_rfl) (by kernel_rfl) rfl ?_ hS ?_;rotate_left;focus (intro w2 hw2;obtain ⟨x1,x2,x3,z1,z2,z3⟩:=hw2;go_simp;first | done | with_reducible rfl);(try simp only [Act.put,pu1,pu2,pu3]))
    (refine wpAnyH_takeL (i:=5) (v:=?_) HL HP HN rfl (by kernel_rfl) (by kernel_rfl) rfl ?_ hS ?_;rotate_left;focus (intro w2 hw2;obtain ⟨x1,x2,x3,z1,z2,z3⟩:=hw2;go_simp;first | done | with_reducible rfl);(try simp only [Act.put,pu1,pu2,pu3]))
    (refine wpAnyH_takeL (i:=6) (v:=?_) HL HP HN rfl (by kernel_rfl) (by kernel_rfl) rfl ?_ hS ?_;rotate_left;focus (intro w2 hw2;obtain ⟨x1,x2,x3,z1,z2,z3⟩:=hw2;go_simp;first | done | with_reducible rfl);(try simp only [Act.put,pu1,pu2,pu3]))
    (refine wpAnyH_takeL (i:=9) (v:=?_) HL HP HN rfl (by kernel_rfl) (by kernel_rfl) rfl ?_ hS ?_;rotate_left;focus (intro w2 hw2;obtain ⟨x1,x2,x3,z1,z2,z3⟩:=hw2;go_simp;first | done | with_reducible rfl);(try simp only [Act.put,pu1,pu2,pu3]))
    (refine wpAnyH_takeL (i:=10) (v:=?_) HL HP HN rfl (by kernel_rfl) (by kernel_rfl) rfl ?_ hS ?_;rotate_left;focus (intro w2 hw2;obtain ⟨x1,x2,x3,z1,z2,z3⟩:=hw2;go_simp;first | done | with_reducible rfl);(try simp only [Act.put,pu1,pu2,pu3]))
    (refine wpAnyH_takeL (i:=11) (v:=?_) HL HP HN rfl (by kernel_rfl) (by kernel_rfl) rfl ?_ hS ?_;rotate_left;focus (intro w2 hw2;obtain ⟨x1,x2,x3,z1,z2,z3⟩:=hw2;go_simp;first | done | with_reducible rfl);(try simp only [Act.put,pu1,pu2,pu3]))
    (refine wpAnyH_takeL (i:=12) (v:=?_) HL HP HN rfl (by kernel_rfl) (by kernel_rfl) rfl ?_ hS ?_;rotate_left;focus (intro w2 hw2;obtain ⟨x1,x2,x3,z1,z2,z3⟩:=hw2;go_simp;first | done | with_reducible rfl);(try simp only [Act.put,pu1,pu2,pu3]))
    (refine wpAnyH_takeL (i:=13) (v:=?_) HL HP HN rfl (by kernel_rfl) (by kernel_rfl) rfl ?_ hS ?_;rotate_left;focus (intro w2 hw2;obtain ⟨x1,x2,x3,z1,z2,z3⟩:=hw2;go_simp;first | done | with_reducible rfl);(try simp only [Act.put,pu1,pu2,pu3]))
    (refine wpAnyH_takeL (i:=14) (v:=?_) HL HP HN rfl (by kernel_rfl) (by kernel_rfl) rfl ?_ hS ?_;rotate_left;focus (intro w2 hw2;obtain ⟨x1,x2,x3,z1,z2,z3⟩:=hw2;go_simp;first | done | with_reducible rfl);(try simp only [Act.put,pu1,pu2,pu3]))
    (refine wpAnyH_takeL (i:=16) (v:=?_) HL HP HN rfl (by kernel_rfl) (by kernel_rfl) rfl ?_ hS ?_;rotate_left;focus (intro w2 hw2;obtain ⟨x1,x2,x3,z1,z2,z3⟩:=hw2;go_simp;first | done | with_reducible rfl);(try simp only [Act.put,pu1,pu2,pu3]))
    (refine wpAnyH_takeL (i:=17) (v:=?_) HL HP HN rfl (by kernel_rfl) (by kernel_rfl) rfl ?_ hS ?_;rotate_left;focus (intro w2 hw2;obtain ⟨x1,x2,x3,z1,z2,z3⟩:=hw2;go_simp;first | done | with_reducible rfl);(try simp only [Act.put,pu1,pu2,pu3]))
    (refine wpAnyH_takeL (i:=18) (v:=?_) HL HP HN rfl (by kernel_rfl) (by kernel_rfl) rfl ?_ hS ?_;rotate_left;focus (intro w2 hw2;obtain ⟨x1,x2,x3,z1,z2,z3⟩:=hw2;go_simp;first | done | with_reducible rfl);(try simp only [Act.put,pu1,pu2,pu3]))
    (refine wpAnyH_takeL (i:=19) (v:=?_) HL HP HN rfl (by kernel_rfl) (by kernel_rfl) rfl ?_ hS ?_;rotate_left;focus (intro w2 hw2;obtain ⟨x1,x2,x3,z1,z2,z3⟩:=hw2;go_simp;first | done | with_reducible rfl);(try simp only [Act.put,pu1,pu2,pu3]))
    refine wpAnyH_readyL (rs:=[7]) HL (by kernel_rfl) (by simp) ?_
    refine AllReadyH.consL HL rfl rfl (fun K hK=>?_) AllReadyH.nil
    (go_simp;go_at_call 11;refine (r_Mod_v n0 4 v0 _ (by decide) (by decide) HV0.out).mono ?_;rintro e w6 ⟨rfl,rfl⟩;go_simp)
    refine hK.out _ _ hS (fun hS=>?_)
    clear hK K
    (try simp only [Act.put,pu1,pu2,pu3])
    (refine wpAnyH_takeL (i:=8) (v:=?_) HL HP HN rfl (by kernel_rfl) (by kernel_rfl) rfl ?_ hS ?_;rotate_left;focus (intro w2 hw2;obtain ⟨x1,x2,x3,z1,z2,z3⟩:=hw2;go_simp;first | done | with_reducible rfl);(try simp only [Act.put,pu1,pu2,pu3]))
    refine wpAnyH_readyL (rs:=[15]) HL (by kernel_rfl) (by simp) ?_
    refine AllReadyH.consL HL rfl rfl (fun K hK=>?_) AllReadyH.nil
    (go_simp;go_at_call 77;refine (r_bits n2 plv _ ⟨hpl1,hpl4⟩).mono ?_;rintro e w6 ⟨A6,n6,c6,xs,rfl,hb6,ho6,hnc6,hcm6,hbits⟩;go_simp)
    have h26:Below W2.heap.size W2 w6:=bt_ (by exact bel_) hb6
    refine hK.out _ _ (K3.ext hb6 hS) (fun hS=>?_)
    clear hK K
    (try simp only [Act.put,pu1,pu2,pu3])
    refine wpAnyH_readyL (rs:=[20]) HL (by kernel_rfl) (by simp) ?_
    refine AllReadyH.consL HL rfl rfl (fun K hK=>?_) AllReadyH.nil
    (go_simp;go_at_call 11;refine (r_Mod_v n4 5 v4 _ (by decide) (by decide) HV4.out).mono ?_;rintro e w9 ⟨rfl,rfl⟩;go_simp)
    refine hK.out _ _ hS (fun hS=>?_)
    clear hK K
    (try simp only [Act.put,pu1,pu2,pu3])
    (refine wpAnyH_takeL (i:=21) (v:=?_) HL HP HN rfl (by kernel_rfl) (by kernel_rfl) rfl ?_ hS ?_;rotate_left;focus (intro w2 hw2;obtain ⟨x1,x2,x3,z1,z2,z3⟩:=hw2;go_simp;first | done | with_reducible rfl);(try simp only [Act.put,pu1,pu2,pu3]))
    (refine wpAnyH_takeL (i:=22) (v:=?_) HL HP HN rfl (by kernel_rfl) (by kernel_rfl) rfl ?_ hS ?_;rotate_left;focus (intro w2 hw2;obtain ⟨x1,x2,x3,z1,z2,z3⟩:=hw2;go_simp;first | done | with_reducible rfl);(try simp only [Act.put,pu1,pu2,pu3]))
    refine wpAnyH_readyL (rs:=[23]) HL (by kernel_rfl) (by simp) ?_
    refine AllReadyH.consL HL rfl rfl (fun K hK=>?_) AllReadyH.nil
    go_simp
    have h27:Below wr.heap.size wr (w6.alloc (.cells (rvC ⟨⟨3*(kR:Int)+1,1+(v0:Int),pid,xs,d+(v3:Int),d+(v3:Int)+(v4:Int),0⟩,A6,n6,c6⟩).toArray 79)):=(bt_ h12 h26).alloc (by have:=(bt_ h12 h26).size;omega) _
    have h68:Below w6.heap.size w6 (w6.alloc (.cells (rvC ⟨⟨3*(kR:Int)+1,1+(v0:Int),pid,xs,d+(v3:Int),d+(v3:Int)+(v4:Int),0⟩,A6,n6,c6⟩).toArray 79)):=(Below.refl _ _).alloc lr_ _
    refine hK.out _ _ (K3.ext h68 hS) (fun hS=>?_)
    clear hK K
    (try simp only [Act.put,pu1,pu2,pu3])
    refine wpAnyH_readyL (rs:=[24]) HL (by kernel_rfl) (by simp) ?_
    refine AllReadyH.consL HL rfl rfl (fun K hK=>?_) AllReadyH.nil
    refine step_appN (by rfl) (.tmp 54) (.tmp 76) 28 (by rfl) (base:=wv.heap.size) (B:=_) (e:=79) (i:=iR) (size:=7) (bytes:=72) Tryz.underlying28 hiR hz0R hz1R hz2R rfl (by decide) (v:=.slice AR kR cR) (n:=kR) (m:=1) (A:=some ⟨w6.heap.size,0,none⟩) (c:=1) (xs:=RV.flatMap rvC) (news:=rvC ⟨⟨3*(kR:Int)+1,1+(v0:Int),pid,xs,d+(v3:Int),d+(v3:Int)+(v4:Int),0⟩,A6,n6,c6⟩) (by rfl) (by rfl) (own_ex HI.out.wo.r h27) (Rd.new w6 (rvC ⟨⟨3*(kR:Int)+1,1+(v0:Int),pid,xs,d+(v3:Int),d+(v3:Int)+(v4:Int),0⟩,A6,n6,c6⟩).toArray 79 7 1 _ rfl rfl) (by intro u hu;simp at hu;rcases hu with rfl | rfl | rfl | rfl | rfl | rfl | rfl <;> rfl) (by unfold maxLen;omega) (by omega) (by have a:=HI.out.wo.sz;have b:=h27.size;simp only [World.size_alloc] at b ⊢;omega) ?_
    intro v8 w8 hown8 hgrow8
    obtain ⟨A8,c8,rfl,hcc8⟩:=own_slice hown8
    have h5o:=own_ex HI.out.wo.r h27
    have bN8:=(HN2.out.ext h26).ext h68
    have bQ8:=(HQ2.out.ext h26).ext h68
    have bO8:=(HO2.out.ext h26).ext h68
    refine hK.out _ _ (K3.grownR hgrow8 hS (own_ne h5o bN8 (by decide)) (own_ne h5o bQ8 (by decide)) (own_ne h5o bO8 (by decide))) (fun hS=>?_)
    clear hK K
    (try simp only [Act.put,pu1,pu2,pu3])
    (refine wpAnyH_takeL (i:=25) (v:=?_) HL HP HN rfl (by kernel_rfl) (by kernel_rfl) rfl ?_ hS ?_;rotate_left;focus (intro w2 hw2;obtain ⟨x1,x2,x3,z1,z2,z3⟩:=hw2;go_simp;first | done | with_reducible rfl);(try simp only [Act.put,pu1,pu2,pu3]))
    have bO9:=bO8.kept hgrow8 (own_ne h5o bO8 (by decide))
    have kO9:=bO9.cell
    have zO9:=bO9.lt
    have fO9:=bO9.frozen
    have hlv:LvAt wv (w6.alloc (.cells (rvC ⟨⟨3*(kR:Int)+1,1+(v0:Int),pid,xs,d+(v3:Int),d+(v3:Int)+(v4:Int),0⟩,A6,n6,c6⟩).toArray 79)) (.slice none 0 0) A6 n6 c6 xs:=⟨⟨hnc6,hcm6⟩,own_ex (own_dn ho6 (by have a:=HI.out.wo.sz;have b:=h12.size;show wv.heap.size≤W2.heap.size;omega)) h68,fun b hb e=>by cases e⟩
    have HT9:=hd_ (HI.out.appR hqq hwv1 h27 hown8 hgrow8 (z:=⟨⟨3*(kR:Int)+1,1+(v0:Int),pid,xs,d+(v3:Int),d+(v3:Int)+(v4:Int),0⟩,A6,n6,c6⟩) hlv (.slice A8 (kR+1) c8))
    clear hown8 hgrow8 hS h5o bN8 bQ8 bO8 bO9
    refine wpAnyH_doneL HL HQ (by kernel_rfl) ?_ _
    simp only [sinkQ]
    go_simp
    go_wp2
    go_roundw
    case rel =>
     refine ⟨kR+1,d+(v3:Int),RV ++ [(⟨⟨3*(kR:Int)+1,1+(v0:Int),pid,xs,d+(v3:Int),d+(v3:Int)+(v4:Int),0⟩,A6,n6,c6⟩:Rv)],A8,c8,by omega,by go_num,rfl,by simp [hlen],by omega,by push_cast;omega,(by exact HT9.out),?_⟩
     rw [List.map_append]
     exact HM.out.addR (by omega) (by omega) (by simp [hlen];omega) ⟨by simp [hlen],by dsimp only;omega,⟨_,HPM.out,rfl,hbits⟩,by dsimp only;omega,by dsimp only;omega,rfl⟩
    case measure=>exact ms_
  | false =>
    clear hC kX zX kO zO
    go_wp2_with fail
    go_loopw [5,10] (fun vD i wr=>∃ (J:Nat) (TV:List Tv) (DL:List Int) (AT:Option Addr) (cT:Nat),J≤8∧i=.int .i64 (J:Int)∧TV.length=J∧DL.length=J∧MdI w wv wr (w.heap.size+1+1+1) #[.slice (some ⟨w.heap.size+1+1,0,none⟩) 3 3,.slice AR kR cR,.slice AT J cT,.slice none 0 0] kR (.slice AR kR cR) RV J (.slice AT J cT) TV 0 (.slice none 0 0) [] J vD DL∧MkOk d ⟨mPp,RV.map Rv.r,TV.map Tv.r,[]⟩ DL) (fun _ i _=>8 - (intOf i).toNat)
    case atStart=>exact ⟨0,[],[],none,0,by omega,rfl,rfl,rfl,HI.out,HM.out⟩
    case round =>
     clear HX HP HOB HI HM HBW hsz
     obtain ⟨J,TV,DL,AT,cT,hJ8,rfl,hTl,hDl,hI,hM⟩:=hrel
     have hsz:=hI.wo.sz
     have bX:BoxA wr w.heap.size 25 #[.slice aA an ac,.slice bA bn bc,.slice cA cn cc]:=(hI.wo.keep _ (by omega) (by omega)).trans HXV.out
     have bP:BoxA wr (w.heap.size+1+1) 38 #[.int .i64 1,.int .i64 4,.int .i64 2,.int .i64 3,.int .i64 5,.int .i64 2]:=(hI.wo.keep _ (by omega) (by omega)).trans HPV.out
     have bO:BoxA wr (w.heap.size+1+1+1) 32 #[.slice (some ⟨w.heap.size+1+1,0,none⟩) 3 3,.slice AR kR cR,.slice AT J cT,.slice none 0 0]:=hI.wo.bO
     have hBW:Below w.heap.size w wr:=hI.wo.bel
     have kX:=bX.cell
     have zX:=bX.lt
     have kO:=bO.cell
     have zO:=bO.lt
     have HX:=hd_ bX
     have HP:=hd_ bP
     have HOB:=hd_ bO
     have HBW:=hd_ hBW
     have HI:=hd_ hI
     have HM:=hd_ hM
     clear hI bX bP bO hM hBW
     go_upto_region 12 with fail
     go_cut [93] from 79 to 79 (fun c wx=>c=.bool (decide (J<bn) && decide (J<8) && decide (0<kR))∧wx=wr)
     case first =>
      by_cases h1:J<bn
      ·by_cases h2:J<8
       ·by_cases h3:0<kR
        ·go_wp2_with fail
         go_meet
         exact ⟨by first | (simp [h1,h2,h3];done) | (simp [h1,h2,h3];omega),rfl⟩
        ·go_wp2_with fail
         go_meet
         exact ⟨by first | (simp [h1,h2,h3];done) | (simp [h1,h2,h3];omega),rfl⟩
       ·go_wp2_with fail
        go_meet
        exact ⟨by first | (simp [h1,h2];done) | (simp [h1,h2];omega),rfl⟩
      ·go_wp2_with fail
       go_meet
       exact ⟨by first | (simp [h1];done) | (simp [h1];omega),rfl⟩
     case rest =>
     obtain ⟨rfl,hwc⟩:=hcut
     obtain rfl:wr=wc:=hwc.symm
     cases hC:(decide (J<bn) && decide (J<8) && decide (0<kR)) with
     | true =>
       simp only [Bool.and_eq_true,decide_eq_true_eq] at hC
       obtain ⟨⟨hKa,hJ8'⟩,hK0⟩:=hC
       obtain ⟨b,o,hA,hb,hec⟩:=raw_at HRB.out hKa
       have hec2:∀ j,j<7→wr.cell? ⟨b,o+J*7+j,none⟩=some (.int .i64 (r.b.getD (J*7+j) 0)):=fun j hj=>(HBW.out.cell (p:=⟨b,o+J*7+j,none⟩) hb).trans (hec j hj)
       have hbr:b<wr.heap.size:=by have:=HBW.out.size;omega
       obtain ⟨n0,hn0⟩:∃ n,r.b.getD (J*7+0) 0=n:=⟨_,rfl⟩
       obtain ⟨n1,hn1⟩:∃ n,r.b.getD (J*7+1) 0=n:=⟨_,rfl⟩
       obtain ⟨n2,hn2⟩:∃ n,r.b.getD (J*7+2) 0=n:=⟨_,rfl⟩
       obtain ⟨n3,hn3⟩:∃ n,r.b.getD (J*7+3) 0=n:=⟨_,rfl⟩
       obtain ⟨n4,hn4⟩:∃ n,r.b.getD (J*7+4) 0=n:=⟨_,rfl⟩
       obtain ⟨n5,hn5⟩:∃ n,r.b.getD (J*7+5) 0=n:=⟨_,rfl⟩
       obtain ⟨n6,hn6⟩:∃ n,r.b.getD (J*7+6) 0=n:=⟨_,rfl⟩
       have e0:=hec2 0 (by decide)
       have e1:=hec2 1 (by decide)
       have e2:=hec2 2 (by decide)
       have e3:=hec2 3 (by decide)
       have e4:=hec2 4 (by decide)
       have e5:=hec2 5 (by decide)
       have e6:=hec2 6 (by decide)
       rw [hn0,Nat.add_zero] at e0
       rw [hn1] at e1
       rw [hn2] at e2
       rw [hn3] at e3
       rw [hn4] at e4
       rw [hn5] at e5
       rw [hn6] at e6
       subst hA
       clear hec hec2 hn0 hn1 hn2 hn3 hn4 hn5 hn6
       go_upto_region 15 with fail
       refine wp_named2 fun f2 W1 hf2 hW1=>?_
       have bN:BoxA W1 wr.heap.size 129 #[.int .i64 n0,.int .i64 n1,.int .i64 n2,.int .i64 n3,.int .i64 n4,.int .i64 n5,.int .i64 n6]:=by rw [← hW1];exact BoxA.new _ _ _
       have h1:Below wr.heap.size wr W1:=by rw [← hW1];exact bel_
       have hs1:=h1.size
       have HBN:=hd_ bN
       clear hW1 e0 e1 e2 e3 e4 e5 e6 kX zX kO zO bN
       subst hf2
       have HI1:=hd_ (HI.out.ext h1)
       obtain ⟨m,hm,hmK⟩:=mod_nat n0 (m:=(kR:Int)) (by omega)
       have hmK:m<kR:=by omega
       obtain ⟨z,hz⟩:∃ z,RV[m]?=some z:=⟨_,List.getElem?_eq_getElem (by omega)⟩
       obtain ⟨gb,go,hA,hgb,hec⟩:=elemB (Rd.of_own HI1.out.wo.r) (flat_get rvC 7 (fun _=>rfl)) (fun _=>rfl) hz hmK
       have hRM:=HM.out.rc m z.r (by rw [List.getElem?_map,hz];rfl)
       have hzm:z.r∈RV.map Rv.r:=List.mem_map.2 ⟨z,List.mem_of_getElem? hz,rfl⟩
       obtain ⟨⟨zs,zb,zp,zl,zd,zk,zu⟩,zA,zn,zc⟩:=z
       obtain ⟨-,-,⟨q,hqm,hqp,-⟩,⟨hz0d,hzd⟩,-,-⟩:=hRM
       dsimp only at hqp hz0d hzd
       have hlq:lvOf mPp zp=q.lv:=by rw [hqp];exact lv_pp hqm
       have hq14:1≤q.lv∧q.lv≤4:=by rcases mem_pp hqm with ⟨-,e⟩ | ⟨-,e⟩ | ⟨-,e⟩ <;> omega
       obtain ⟨qlv,hql⟩:∃ v,q.lv=v:=⟨_,rfl⟩
       rw [hql] at hlq hq14
       subst hA
       have HMM:=hd_ hm
       have HEC:=hd_ hec
       have HZM:=hd_ hzm
       have HLQ:=hd_ hlq
       have bO1:=HI1.out.wo.bO
       have HOB1:=hd_ bO1
       have hd160:d≤160:=HM.out.dd
       have hlqq:(1:Int)≤kR:=by omega
       clear hm hz hqp hql hqm hec hzm hlq bO1
       go_cut [12] from 79 to 79 (fun c wx=>∃ B,c=.pointer (some ⟨B,0,none⟩)∧W1.heap.size≤B∧Below W1.heap.size W1 wx∧BoxA wx B 79 #[.int .i64 zs,.int .i64 zb,.int .i64 zp,.slice zA zn zc,.int .i64 zd,.int .i64 zk,.int .i64 zu])
       case first =>
        (refine wp_region_sink_lit (S:=KE wr.heap.size (w.heap.size+1+1+1) #[.int .i64 n0,.int .i64 n1,.int .i64 n2,.int .i64 n3,.int .i64 n4,.int .i64 n5,.int .i64 n6] #[.slice (some ⟨w.heap.size+1+1,0,none⟩) 3 3,.slice (some ⟨gb,go,none⟩) kR cR,.slice AT J cT,.slice none 0 0] gb (go+m*7) (rvC ⟨⟨zs,zb,zp,zl,zd,zk,zu⟩,zA,zn,zc⟩)) 11 (by kernel_rfl) rfl rfl (by kernel_rfl) (by kernel_rfl) ⟨⟨HBN.out.cell,HOB1.out.cell,HBN.out.lt,HOB1.out.lt⟩,hgb,HEC.out⟩ (fun hS=>?_);simp only [List.take_succ_cons,List.take_zero,List.reduceReplicate,Array.replicate_succ,Array.replicate_zero])
        refine wpAnyH_abs (fun _ _ _ _ _ h=>h) (by kernel_rfl) (fun L Q HL HQ HP HN=>?_)
        (refine wpAnyH_takeL (i:=0) (v:=?_) HL HP HN rfl (by kernel_rfl) (by kernel_rfl) rfl ?_ hS ?_;rotate_left;focus (intro w2 hw2;obtain ⟨⟨x1,x2,z1,z2⟩,z3,hec⟩:=hw2;have g0:=hec 0 _ rfl;have g1:=hec 1 _ rfl;have g2:=hec 2 _ rfl;have g3:=hec 3 _ rfl;have g4:=hec 4 _ rfl;have g5:=hec 5 _ rfl;have g6:=hec 6 _ rfl;simp only [Nat.add_zero] at g0;clear hec;go_simp;first | done | with_reducible rfl);(try simp only [Act.put,pu1,pu2,pu3]))
        (refine wpAnyH_takeL (i:=1) (v:=?_) HL HP HN rfl (by kernel_rfl) (by kernel_rfl) rfl ?_ hS ?_;rotate_left;focus (intro w2 hw2;obtain ⟨⟨x1,x2,z1,z2⟩,z3,hec⟩:=hw2;have g0:=hec 0 _ rfl;have g1:=hec 1 _ rfl;have g2:=hec 2 _ rfl;have g3:=hec 3 _ rfl;have g4:=hec 4 _ rfl;have g5:=hec 5 _ rfl;have g6:=hec 6 _ rfl;simp only [Nat.add_zero] at g0;clear hec;go_simp;first | done | with_reducible rfl);(try simp only [Act.put,pu1,pu2,pu3]))
        (refine wpAnyH_takeL (i:=2) (v:=?_) HL HP HN rfl (by kernel_rfl) (by kernel_rfl) rfl ?_ hS ?_;rotate_left;focus (intro w2 hw2;obtain ⟨⟨x1,x2,z1,z2⟩,z3,hec⟩:=hw2;have g0:=hec 0 _ rfl;have g1:=hec 1 _ rfl;have g2:=hec 2 _ rfl;have g3:=hec 3 _ rfl;have g4:=hec 4 _ rfl;have g5:=hec 5 _ rfl;have g6:=hec 6 _ rfl;simp only [Nat.add_zero] at g0;clear hec;go_simp;first | done | with_reducible rfl);(try simp only [Act.put,pu1,pu2,pu3]))
        (refine wpAnyH_takeL (i:=3) (v:=?_) HL HP HN rfl (by kernel_rfl) (by kernel_rfl) rfl ?_ hS ?_;rotate_left;focus (intro w2 hw2;obtain ⟨⟨x1,x2,z1,z2⟩,z3,hec⟩:=hw2;have g0:=hec 0 _ rfl;have g1:=hec 1 _ rfl;have g2:=hec 2 _ rfl;have g3:=hec 3 _ rfl;have g4:=hec 4 _ rfl;have g5:=hec 5 _ rfl;have g6:=hec 6 _ rfl;simp only [Nat.add_zero] at g0;clear hec;go_simp;first | done | with_reducible rfl);(try simp only [Act.put,pu1,pu2,pu3]))
        (refine wpAnyH_takeL (i:=4) (v:=?_) HL HP HN rfl (by kernel_rfl) (by kernel_rfl) rfl ?_ hS ?_;rotate_left;focus (intro w2 hw2;obtain ⟨⟨x1,x2,z1,z2⟩,z3,hec⟩:=hw2;have g0:=hec 0 _ rfl;have g1:=hec 1 _ rfl;have g2:=hec 2 _ rfl;have g3:=hec 3 _ rfl;have g4:=hec 4 _ rfl;have g5:=hec 5 _ rfl;have g6:=hec 6 _ rfl;simp only [Nat.add_zero] at g0;clear hec;go_simp;first | done | with_reducible rfl);(try simp only [Act.put,pu1,pu2,pu3]))
        (refine wpAnyH_takeL (i:=5) (v:=?_) HL HP HN rfl (by kernel_rfl) (by kernel_rfl) rfl ?_ hS ?_;rotate_left;focus (intro w2 hw2;obtain ⟨⟨x1,x2,z1,z2⟩,z3,hec⟩:=hw2;have g0:=hec 0 _ rfl;have g1:=hec 1 _ rfl;have g2:=hec 2 _ rfl;have g3:=hec 3 _ rfl;have g4:=hec 4 _ rfl;have g5:=hec 5 _ rfl;have g6:=hec 6 _ rfl;simp only [Nat.add_zero] at g0;clear hec;go_simp;first | done | with_reducible rfl);(try simp only [Act.put,pu1,pu2,pu3]))
        (refine wpAnyH_takeL (i:=6) (v:=?_) HL HP HN rfl (by kernel_rfl) (by kernel_rfl) rfl ?_ hS ?_;rotate_left;focus (intro w2 hw2;obtain ⟨⟨x1,x2,z1,z2⟩,z3,hec⟩:=hw2;have g0:=hec 0 _ rfl;have g1:=hec 1 _ rfl;have g2:=hec 2 _ rfl;have g3:=hec 3 _ rfl;have g4:=hec 4 _ rfl;have g5:=hec 5 _ rfl;have g6:=hec 6 _ rfl;simp only [Nat.add_zero] at g0;clear hec;go_simp;first | done | with_reducible rfl);(try simp only [Act.put,pu1,pu2,pu3]))
        refine wpAnyH_readyL (rs:=[7,10]) HL (by kernel_rfl) (by simp) ?_
        refine AllReadyH.consL HL rfl rfl (fun K hK=>?_) (AllReadyH.consL HL rfl rfl (fun K hK=>?_) AllReadyH.nil)
        ·skip
         (go_simp;go_at_call 11;refine (r_Mod_v n0 kR m _ (by omega) (by omega) HMM.out).mono ?_;rintro e w6 ⟨rfl,rfl⟩;go_simp)
         refine hK.out _ _ hS (fun hS=>?_)
         clear hK K
         (try simp only [Act.put,pu1,pu2,pu3])
         (refine wpAnyH_takeL (i:=8) (v:=?_) HL HP HN rfl (by kernel_rfl) (by kernel_rfl) rfl ?_ hS ?_;rotate_left;focus (intro w2 hw2;obtain ⟨⟨x1,x2,z1,z2⟩,z3,hec⟩:=hw2;have g0:=hec 0 _ rfl;have g1:=hec 1 _ rfl;have g2:=hec 2 _ rfl;have g3:=hec 3 _ rfl;have g4:=hec 4 _ rfl;have g5:=hec 5 _ rfl;have g6:=hec 6 _ rfl;simp only [Nat.add_zero] at g0;clear hec;go_simp;first | done | with_reducible rfl);(try simp only [Act.put,pu1,pu2,pu3]))
         (refine wpAnyH_takeL (i:=9) (v:=?_) HL HP HN rfl (by kernel_rfl) (by kernel_rfl) rfl ?_ hS ?_;rotate_left;focus (intro w2 hw2;obtain ⟨⟨x1,x2,z1,z2⟩,z3,hec⟩:=hw2;have g0:=hec 0 _ rfl;have g1:=hec 1 _ rfl;have g2:=hec 2 _ rfl;have g3:=hec 3 _ rfl;have g4:=hec 4 _ rfl;have g5:=hec 5 _ rfl;have g6:=hec 6 _ rfl;simp only [Nat.add_zero] at g0;clear hec;go_simp;first | done | with_reducible rfl);(try simp only [Act.put,pu1,pu2,pu3]))
         refine wpAnyH_readyL (rs:=[10]) HL (by kernel_rfl) (by simp) ?_
         refine AllReadyH.consL HL rfl rfl (fun K hK=>?_) AllReadyH.nil
         go_simp
         refine hK.out _ _ (KE.ext ((Below.refl _ _).alloc lr_ _) hS) (fun hS=>?_)
         clear hK K
         (try simp only [Act.put,pu1,pu2,pu3])
         refine wpAnyH_doneL HL HQ (by kernel_rfl) ?_ _
         simp only [sinkQ]
         go_simp
         go_wp2
         go_meet
         exact ⟨_,rfl,lr_,by exact bel_,BoxA.new _ _ _⟩
        ·skip
         go_simp
         refine hK.out _ _ (KE.ext ((Below.refl _ _).alloc lr_ _) hS) (fun hS=>?_)
         clear hK K
         (try simp only [Act.put,pu1,pu2,pu3])
         refine wpAnyH_readyL (rs:=[7]) HL (by kernel_rfl) (by simp) ?_
         refine AllReadyH.consL HL rfl rfl (fun K hK=>?_) AllReadyH.nil
         (go_simp;go_at_call 11;refine (r_Mod_v n0 kR m _ (by omega) (by omega) HMM.out).mono ?_;rintro e w6 ⟨rfl,rfl⟩;go_simp)
         refine hK.out _ _ hS (fun hS=>?_)
         clear hK K
         (try simp only [Act.put,pu1,pu2,pu3])
         (refine wpAnyH_takeL (i:=8) (v:=?_) HL HP HN rfl (by kernel_rfl) (by kernel_rfl) rfl ?_ hS ?_;rotate_left;focus (intro w2 hw2;obtain ⟨⟨x1,x2,z1,z2⟩,z3,hec⟩:=hw2;have g0:=hec 0 _ rfl;have g1:=hec 1 _ rfl;have g2:=hec 2 _ rfl;have g3:=hec 3 _ rfl;have g4:=hec 4 _ rfl;have g5:=hec 5 _ rfl;have g6:=hec 6 _ rfl;simp only [Nat.add_zero] at g0;clear hec;go_simp;first | done | with_reducible rfl);(try simp only [Act.put,pu1,pu2,pu3]))
         (refine wpAnyH_takeL (i:=9) (v:=?_) HL HP HN rfl (by kernel_rfl) (by kernel_rfl) rfl ?_ hS ?_;rotate_left;focus (intro w2 hw2;obtain ⟨⟨x1,x2,z1,z2⟩,z3,hec⟩:=hw2;have g0:=hec 0 _ rfl;have g1:=hec 1 _ rfl;have g2:=hec 2 _ rfl;have g3:=hec 3 _ rfl;have g4:=hec 4 _ rfl;have g5:=hec 5 _ rfl;have g6:=hec 6 _ rfl;simp only [Nat.add_zero] at g0;clear hec;go_simp;first | done | with_reducible rfl);(try simp only [Act.put,pu1,pu2,pu3]))
         refine wpAnyH_doneL HL HQ (by kernel_rfl) ?_ _
         simp only [sinkQ]
         go_simp
         go_wp2
         go_meet
         exact ⟨_,rfl,lr_,by exact bel_,BoxA.new _ _ _⟩
       case rest =>
       obtain ⟨BX,rfl,hBX,h2,bXX⟩:=hcut
       obtain ⟨W2,rfl⟩:∃ W2:World,W2=wc:=⟨_,rfl⟩
       have hs2:=h2.size
       have h12:Below wr.heap.size wr W2:=bt_ h1 h2
       have HN2:=hd_ (HBN.out.ext h2)
       have HO2:=hd_ (HOB1.out.ext h2)
       have HX2:=hd_ bXX
       have hBXr:wr.heap.size≤BX:=by omega
       obtain ⟨v2,hv2,hv2b⟩:=mod_nat n2 (m:=30) (by decide)
       obtain ⟨v6,hv6,hv6b⟩:=mod_nat n6 (m:=4) (by decide)
       obtain ⟨v3,hv3,hv3b⟩:=mod_nat n3 (m:=12) (by decide)
       obtain ⟨v4,hv4,hv4b⟩:=mod_nat n4 (m:=12) (by decide)
       obtain ⟨v5,hv5,hv5b⟩:=mod_nat n5 (m:=9) (by decide)
       have HV2:=hd_ hv2
       have HV6:=hd_ hv6
       have HV3:=hd_ hv3
       have HV4:=hd_ hv4
       have HV5:=hd_ hv5
       have kN:=HN2.out.cell
       have zN:=HN2.out.lt
       have kX:=HX2.out.cell
       have zX:=HX2.out.lt
       have w16:IntKind.i64.wrap (zd+(v2:Int))=zd+(v2:Int):=wrap_in (by omega) (by omega)
       clear hv2 hv3 hv4 hv5 hv6 bXX HOB1 HBN HEC
       go_upto_region 16 with fail
       (refine rg_ ?_;(repeat (go_big_quiet_step ((first | (go_at_call 11;exact Calls.grow_same (r_Mod_v n2 30 v2 _ (by decide) (by decide) HV2.out))))));refine qn_ fun w1 hb1 hc1 hf1=>?_)
       obtain ⟨W3,rfl⟩:∃ W3:World,W3=w1:=⟨_,rfl⟩
       have h3:=hb1
       have h23:Below wr.heap.size wr W3:=bt_ h12 h3
       have hs3:=h3.size
       clear kN zN kX zX hb1 hc1 hf1
       have HN3:=hd_ (HN2.out.ext h3)
       have HO3:=hd_ (HO2.out.ext h3)
       have HX3:=hd_ (HX2.out.ext h3)
       have HPS:Hid (∀ W:World,Below W3.heap.size W3 W→Pps W W.heap.size (some ⟨w.heap.size+1+1,0,none⟩) 3 mPp):=by
        show ∀ _,_
        exact fun W hW=>(pp_read ((HP.out.ext h23)) ((HP.out.ext h23)).lt).now abP hW
       clear HN2 HO2 HX2
       go_upto_region 17 with fail
       obtain ⟨at_,hat⟩:∃ y,zd+(v2:Int)=y:=⟨_,rfl⟩
       have hat0:zd≤at_∧at_≤zd+29:=by omega
       rw [hat]
       obtain ⟨lo,hlo⟩:∃ y,max 0 (at_ - (v3:Int))=y:=⟨_,rfl⟩
       obtain ⟨hi2,hhi⟩:∃ y,at_+(v4:Int)=y:=⟨_,rfl⟩
       have w17:IntKind.i64.wrap (3*(J:Int))=3*(J:Int):=wrap_in (by omega) (by omega)
       have w18:IntKind.i64.wrap (3*(J:Int)+2)=3*(J:Int)+2:=wrap_in (by omega) (by omega)
       have w19:IntKind.i64.wrap (1+(v6:Int))=1+(v6:Int):=wrap_in (by omega) (by omega)
       have w20:IntKind.i64.wrap (at_ - (v3:Int))=at_ - (v3:Int):=wrap_in (by omega) (by omega)
       have w21:IntKind.i64.wrap hi2=hi2:=wrap_in (by omega) (by omega)
       have w22:IntKind.i64.wrap (hi2+(v5:Int))=hi2+(v5:Int):=wrap_in (by omega) (by omega)
       go_cut [14] from 79 to 79 (fun c wx=>∃ B Ab nb cb xs,c=.pointer (some ⟨B,0,none⟩)∧W3.heap.size≤B∧Below W3.heap.size W3 wx∧BoxA wx B 75 #[.int .i64 (3*(J:Int)+2),.int .i64 zs,.int .i64 (1+(v6:Int)),.slice Ab nb cb,.int .i64 lo,.int .i64 hi2,.int .i64 0,.int .i64 0]∧wx.ownsRow W3.heap.size 3 1 (.slice Ab nb cb) nb (intL xs)∧nb≤cb∧cb≤maxLen∧BitsOk qlv xs)
       case first =>
        clear HI HM HX HP HOB HBW HI1 HZM HMM HXV HRV HPV HOV HBV HRA HRB HRC HV2 HV5 hiR hz0R hz1R hz2R hiT hz0T hz1T hz2T hiS hz0S hz1S hz2S hi hz0 hz1 hz2 han hbn hcn hqq hK8 hlen hd0 hd1 hJ8 hTl hDl hsz hs1 hs2 hs3 h1 h2 h3 h12 h23 hmK hgb hz0d hzd hat hat0 hBX hBXr w16 hd160 hlqq hwv1 hsv
        have hE:Below W3.heap.size W3 W3.drew:=by exact bel_
        (refine wp_region_sink_lit (S:=K3 wr.heap.size BX (w.heap.size+1+1+1) #[.int .i64 n0,.int .i64 n1,.int .i64 n2,.int .i64 n3,.int .i64 n4,.int .i64 n5,.int .i64 n6] #[.int .i64 zs,.int .i64 zb,.int .i64 zp,.slice zA zn zc,.int .i64 zd,.int .i64 zk,.int .i64 zu] #[.slice (some ⟨w.heap.size+1+1,0,none⟩) 3 3,.slice (some ⟨gb,go,none⟩) kR cR,.slice AT J cT,.slice none 0 0]) 30 (by kernel_rfl) rfl rfl (by kernel_rfl) (by kernel_rfl) ⟨HN3.out.cell,HX3.out.cell,HO3.out.cell,HN3.out.lt,HX3.out.lt,HO3.out.lt⟩ (fun hS=>?_);simp only [List.take_succ_cons,List.take_zero,List.reduceReplicate,Array.replicate_succ,Array.replicate_zero])
        refine wpAnyH_abs (fun _ _ _ _ _ h=>h) (by kernel_rfl) (fun L Q HL HQ HP HN=>?_)
        (refine wpAnyH_takeL (i:=0) (v:=?_) HL HP HN rfl (by kernel_rfl) (by kernel_rfl) rfl ?_ hS ?_;rotate_left;focus (intro w2 hw2;obtain ⟨x1,x2,x3,z1,z2,z3⟩:=hw2;go_simp;first | done | with_reducible rfl);(try simp only [Act.put,pu1,pu2,pu3]))
        (refine wpAnyH_takeL (i:=1) (v:=?_) HL HP HN rfl (by kernel_rfl) (by kernel_rfl) rfl ?_ hS ?_;rotate_left;focus (intro w2 hw2;obtain ⟨x1,x2,x3,z1,z2,z3⟩:=hw2;go_simp;first | done | with_reducible rfl);(try simp only [Act.put,pu1,pu2,pu3]))
        (refine wpAnyH_takeL (i:=2) (v:=?_) HL HP HN rfl (by kernel_rfl) (by kernel_rfl) rfl ?_ hS ?_;rotate_left;focus (intro w2 hw2;obtain ⟨x1,x2,x3,z1,z2,z3⟩:=hw2;go_simp;first | done | with_reducible rfl);(try simp only [Act.put,pu1,pu2,pu3]))
        (refine wpAnyH_takeL (i:=3) (v:=?_) HL HP HN rfl (by kernel_rfl) (by kernel_rfl) rfl ?_ hS ?_;rotate_left;focus (intro w2 hw2;obtain ⟨x1,x2,x3,z1,z2,z3⟩:=hw2;go_simp;first | done | with_reducible rfl);(try simp only [Act.put,pu1,pu2,pu3]))
        (refine wpAnyH_takeL (i:=4) (v:=?_) HL HP HN rfl (by kernel_rfl) (by kernel_rfl) rfl ?_ hS ?_;rotate_left;focus (intro w2 hw2;obtain ⟨x1,x2,x3,z1,z2,z3⟩:=hw2;go_simp;first | done | with_reducible rfl);(try simp only [Act.put,pu1,pu2,pu3]))
        (refine wpAnyH_takeL (i:=5) (v:=?_) HL HP HN rfl (by kernel_rfl) (by kernel_rfl) rfl ?_ hS ?_;rotate_left;focus (intro w2 hw2;obtain ⟨x1,x2,x3,z1,z2,z3⟩:=hw2;go_simp;first | done | with_reducible rfl);(try simp only [Act.put,pu1,pu2,pu3]))
        (refine wpAnyH_takeL (i:=6) (v:=?_) HL HP HN rfl (by kernel_rfl) (by kernel_rfl) rfl ?_ hS ?_;rotate_left;focus (intro w2 hw2;obtain ⟨x1,x2,x3,z1,z2,z3⟩:=hw2;go_simp;first | done | with_reducible rfl);(try simp only [Act.put,pu1,pu2,pu3]))
        (refine wpAnyH_takeL (i:=9) (v:=?_) HL HP HN rfl (by kernel_rfl) (by kernel_rfl) rfl ?_ hS ?_;rotate_left;focus (intro w2 hw2;obtain ⟨x1,x2,x3,z1,z2,z3⟩:=hw2;go_simp;first | done | with_reducible rfl);(try simp only [Act.put,pu1,pu2,pu3]))
        (refine wpAnyH_takeL (i:=10) (v:=?_) HL HP HN rfl (by kernel_rfl) (by kernel_rfl) rfl ?_ hS ?_;rotate_left;focus (intro w2 hw2;obtain ⟨x1,x2,x3,z1,z2,z3⟩:=hw2;go_simp;first | done | with_reducible rfl);(try simp only [Act.put,pu1,pu2,pu3]))
        (refine wpAnyH_takeL (i:=11) (v:=?_) HL HP HN rfl (by kernel_rfl) (by kernel_rfl) rfl ?_ hS ?_;rotate_left;focus (intro w2 hw2;obtain ⟨x1,x2,x3,z1,z2,z3⟩:=hw2;go_simp;first | done | with_reducible rfl);(try simp only [Act.put,pu1,pu2,pu3]))
        (refine wpAnyH_takeL (i:=12) (v:=?_) HL HP HN rfl (by kernel_rfl) (by kernel_rfl) rfl ?_ hS ?_;rotate_left;focus (intro w2 hw2;obtain ⟨x1,x2,x3,z1,z2,z3⟩:=hw2;go_simp;first | done | with_reducible rfl);(try simp only [Act.put,pu1,pu2,pu3]))
        (refine wpAnyH_takeL (i:=13) (v:=?_) HL HP HN rfl (by kernel_rfl) (by kernel_rfl) rfl ?_ hS ?_;rotate_left;focus (intro w2 hw2;obtain ⟨x1,x2,x3,z1,z2,z3⟩:=hw2;go_simp;first | done | with_reducible rfl);(try simp only [Act.put,pu1,pu2,pu3]))
        (refine wpAnyH_takeL (i:=16) (v:=?_) HL HP HN rfl (by kernel_rfl) (by kernel_rfl) rfl ?_ hS ?_;rotate_left;focus (intro w2 hw2;obtain ⟨x1,x2,x3,z1,z2,z3⟩:=hw2;go_simp;first | done | with_reducible rfl);(try simp only [Act.put,pu1,pu2,pu3]))
        (refine wpAnyH_takeL (i:=17) (v:=?_) HL HP HN rfl (by kernel_rfl) (by kernel_rfl) rfl ?_ hS ?_;rotate_left;focus (intro w2 hw2;obtain ⟨x1,x2,x3,z1,z2,z3⟩:=hw2;go_simp;first | done | with_reducible rfl);(try simp only [Act.put,pu1,pu2,pu3]))
        (refine wpAnyH_takeL (i:=18) (v:=?_) HL HP HN rfl (by kernel_rfl) (by kernel_rfl) rfl ?_ hS ?_;rotate_left;focus (intro w2 hw2;obtain ⟨x1,x2,x3,z1,z2,z3⟩:=hw2;go_simp;first | done | with_reducible rfl);(try simp only [Act.put,pu1,pu2,pu3]))
        (refine wpAnyH_takeL (i:=22) (v:=?_) HL HP HN rfl (by kernel_rfl) (by kernel_rfl) rfl ?_ hS ?_;rotate_left;focus (intro w2 hw2;obtain ⟨x1,x2,x3,z1,z2,z3⟩:=hw2;go_simp;first | done | with_reducible rfl);(try simp only [Act.put,pu1,pu2,pu3]))
        (refine wpAnyH_takeL (i:=23) (v:=?_) HL HP HN rfl (by kernel_rfl) (by kernel_rfl) rfl ?_ hS ?_;rotate_left;focus (intro w2 hw2;obtain ⟨x1,x2,x3,z1,z2,z3⟩:=hw2;go_simp;first | done | with_reducible rfl);(try simp only [Act.put,pu1,pu2,pu3]))
        (refine wpAnyH_takeL (i:=24) (v:=?_) HL HP HN rfl (by kernel_rfl) (by kernel_rfl) rfl ?_ hS ?_;rotate_left;focus (intro w2 hw2;obtain ⟨x1,x2,x3,z1,z2,z3⟩:=hw2;go_simp;first | done | with_reducible rfl);(try simp only [Act.put,pu1,pu2,pu3]))
        refine wpAnyH_readyL (rs:=[7,29]) HL (by kernel_rfl) (by simp) ?_
        refine AllReadyH.consL HL rfl rfl (fun K hK=>?_) (AllReadyH.consL HL rfl rfl (fun K hK=>?_) AllReadyH.nil)
        ·skip
         (go_simp;go_at_call 11;refine (r_Mod_v n6 4 v6 _ (by decide) (by decide) HV6.out).mono ?_;rintro e w9 ⟨rfl,rfl⟩;go_simp)
         refine hK.out _ _ hS (fun hS=>?_)
         clear hK K
         (try simp only [Act.put,pu1,pu2,pu3])
         (refine wpAnyH_takeL (i:=8) (v:=?_) HL HP HN rfl (by kernel_rfl) (by kernel_rfl) rfl ?_ hS ?_;rotate_left;focus (intro w2 hw2;obtain ⟨x1,x2,x3,z1,z2,z3⟩:=hw2;go_simp;first | done | with_reducible rfl);(try simp only [Act.put,pu1,pu2,pu3]))
         refine wpAnyH_readyL (rs:=[14,29]) HL (by kernel_rfl) (by simp) ?_
         refine AllReadyH.consL HL rfl rfl (fun K hK=>?_) (AllReadyH.consL HL rfl rfl (fun K hK=>?_) AllReadyH.nil)
         ·skip
          (go_simp;go_at_call 78;refine (r_leavesOf_v mPp ⟨some ⟨w.heap.size+1+1,0,none⟩,3,3,some ⟨gb,go,none⟩,kR,cR,AT,J,cT,none,0,0⟩ zp qlv _ (by show 3≤9223372036854775807;decide) (HPS.out _ hE) HLQ.out).mono ?_;rintro e w7 ⟨rfl,hb7⟩;go_simp)
          have hE:=bt_ hE hb7
          refine hK.out _ _ (K3.ext hb7 hS) (fun hS=>?_)
          clear hK K
          (try simp only [Act.put,pu1,pu2,pu3])
          refine wpAnyH_readyL (rs:=[15,29]) HL (by kernel_rfl) (by simp) ?_
          refine AllReadyH.consL HL rfl rfl (fun K hK=>?_) (AllReadyH.consL HL rfl rfl (fun K hK=>?_) AllReadyH.nil)
          ·skip
           (go_simp;go_at_call 77;refine (r_bits n1 qlv _ hq14).mono ?_;rintro e w8 ⟨Ab,nb,cb,xs,rfl,hb8,ho8,hnc6,hcm6,hbits⟩;go_simp)
           have ho:=own_dn ho8 hE.size
           have hE:=bt_ hE hb8
           refine hK.out _ _ (K3.ext hb8 hS) (fun hS=>?_)
           clear hK K
           (try simp only [Act.put,pu1,pu2,pu3])
           refine wpAnyH_readyL (rs:=[19,29]) HL (by kernel_rfl) (by simp) ?_
           refine AllReadyH.consL HL rfl rfl (fun K hK=>?_) (AllReadyH.consL HL rfl rfl (fun K hK=>?_) AllReadyH.nil)
           ·skip
            (go_simp;go_at_call 11;refine (r_Mod_v n3 12 v3 _ (by decide) (by decide) HV3.out).mono ?_;rintro e w9 ⟨rfl,rfl⟩;go_simp)
            refine hK.out _ _ hS (fun hS=>?_)
            clear hK K
            (try simp only [Act.put,pu1,pu2,pu3])
            (refine wpAnyH_takeL (i:=20) (v:=?_) HL HP HN rfl (by kernel_rfl) (by kernel_rfl) rfl ?_ hS ?_;rotate_left;focus (intro w2 hw2;obtain ⟨x1,x2,x3,z1,z2,z3⟩:=hw2;go_simp;first | done | with_reducible rfl);(try simp only [Act.put,pu1,pu2,pu3]))
            (refine wpAnyH_takeL (i:=21) (v:=?_) HL HP HN rfl (by kernel_rfl) (by kernel_rfl) rfl ?_ hS ?_;rotate_left;focus (intro w2 hw2;obtain ⟨x1,x2,x3,z1,z2,z3⟩:=hw2;go_simp;first | done | with_reducible rfl);(try simp only [Act.put,pu1,pu2,pu3]))
            refine wpAnyH_readyL (rs:=[25,29]) HL (by kernel_rfl) (by simp) ?_
            refine AllReadyH.consL HL rfl rfl (fun K hK=>?_) (AllReadyH.consL HL rfl rfl (fun K hK=>?_) AllReadyH.nil)
            ·skip
             (go_simp;go_at_call 11;refine (r_Mod_v n4 12 v4 _ (by decide) (by decide) HV4.out).mono ?_;rintro e w9 ⟨rfl,rfl⟩;go_simp)
             refine hK.out _ _ hS (fun hS=>?_)
             clear hK K
             (try simp only [Act.put,pu1,pu2,pu3])
             (refine wpAnyH_takeL (i:=26) (v:=?_) HL HP HN rfl (by kernel_rfl) (by kernel_rfl) rfl ?_ hS ?_;rotate_left;focus (intro w2 hw2;obtain ⟨x1,x2,x3,z1,z2,z3⟩:=hw2;go_simp;first | done | with_reducible rfl);(try simp only [Act.put,pu1,pu2,pu3]))
             (refine wpAnyH_takeL (i:=27) (v:=?_) HL HP HN rfl (by kernel_rfl) (by kernel_rfl) rfl ?_ hS ?_;rotate_left;focus (intro w2 hw2;obtain ⟨x1,x2,x3,z1,z2,z3⟩:=hw2;go_simp;first | done | with_reducible rfl);(try simp only [Act.put,pu1,pu2,pu3]))
             (refine wpAnyH_takeL (i:=28) (v:=?_) HL HP HN rfl (by kernel_rfl) (by kernel_rfl) rfl ?_ hS ?_;rotate_left;focus (intro w2 hw2;obtain ⟨x1,x2,x3,z1,z2,z3⟩:=hw2;go_simp;first | done | with_reducible rfl);(try simp only [Act.put,pu1,pu2,pu3]))
             refine wpAnyH_readyL (rs:=[29]) HL (by kernel_rfl) (by simp) ?_
             refine AllReadyH.consL HL rfl rfl (fun K hK=>?_) AllReadyH.nil
             go_simp
             have bB:BoxA (w8.alloc (.cells #[.int .i64 0,.int .i64 0,.int .i64 0,.slice none 0 0,.int .i64 0,.int .i64 0,.int .i64 0,.int .i64 0] 75)) w8.heap.size 75 #[.int .i64 0,.int .i64 0,.int .i64 0,.slice none 0 0,.int .i64 0,.int .i64 0,.int .i64 0,.int .i64 0]:=BoxA.new _ _ _
             have hBB:W3.heap.size≤w8.heap.size:=hE.size
             have hal:Below w8.heap.size w8 (w8.alloc (.cells #[.int .i64 0,.int .i64 0,.int .i64 0,.slice none 0 0,.int .i64 0,.int .i64 0,.int .i64 0,.int .i64 0] 75)):=(Below.refl _ _).alloc lr_ _
             have ho0:=ho
             have ho:=own_ex ho hal
             have hE0:=hE
             have hE:=bt_ hE hal
             refine hK.out _ _ (K3.ext hal hS) (fun hS=>?_)
             clear hK K
             (try simp only [Act.put,pu1,pu2,pu3])
             refine wpAnyH_doneL HL HQ (by kernel_rfl) ?_ _
             simp only [sinkQ]
             go_simp
             go_wp2
             go_meet
             exact ⟨_,Ab,nb,cb,xs,rfl,hBB,hE0.alloc hE0.size _,BoxA.new _ _ _,own_ex ho0 ((Below.refl _ _).alloc lr_ _),hnc6,hcm6,hbits⟩
            ·skip
             go_simp
             have bB:BoxA (w8.alloc (.cells #[.int .i64 0,.int .i64 0,.int .i64 0,.slice none 0 0,.int .i64 0,.int .i64 0,.int .i64 0,.int .i64 0] 75)) w8.heap.size 75 #[.int .i64 0,.int .i64 0,.int .i64 0,.slice none 0 0,.int .i64 0,.int .i64 0,.int .i64 0,.int .i64 0]:=BoxA.new _ _ _
             have hBB:W3.heap.size≤w8.heap.size:=hE.size
             have hal:Below w8.heap.size w8 (w8.alloc (.cells #[.int .i64 0,.int .i64 0,.int .i64 0,.slice none 0 0,.int .i64 0,.int .i64 0,.int .i64 0,.int .i64 0] 75)):=(Below.refl _ _).alloc lr_ _
             have ho0:=ho
             have ho:=own_ex ho hal
             have hE0:=hE
             have hE:=bt_ hE hal
             refine hK.out _ _ (K3.ext hal hS) (fun hS=>?_)
             clear hK K
             (try simp only [Act.put,pu1,pu2,pu3])
             refine wpAnyH_readyL (rs:=[25]) HL (by kernel_rfl) (by simp) ?_
             refine AllReadyH.consL HL rfl rfl (fun K hK=>?_) AllReadyH.nil
             (go_simp;go_at_call 11;refine (r_Mod_v n4 12 v4 _ (by decide) (by decide) HV4.out).mono ?_;rintro e w9 ⟨rfl,rfl⟩;go_simp)
             refine hK.out _ _ hS (fun hS=>?_)
             clear hK K
             (try simp only [Act.put,pu1,pu2,pu3])
             (refine wpAnyH_takeL (i:=26) (v:=?_) HL HP HN rfl (by kernel_rfl) (by kernel_rfl) rfl ?_ hS ?_;rotate_left;focus (intro w2 hw2;obtain ⟨x1,x2,x3,z1,z2,z3⟩:=hw2;go_simp;first | done | with_reducible rfl);(try simp only [Act.put,pu1,pu2,pu3]))
             (refine wpAnyH_takeL (i:=27) (v:=?_) HL HP HN rfl (by kernel_rfl) (by kernel_rfl) rfl ?_ hS ?_;rotate_left;focus (intro w2 hw2;obtain ⟨x1,x2,x3,z1,z2,z3⟩:=hw2;go_simp;first | done | with_reducible rfl);(try simp only [Act.put,pu1,pu2,pu3]))
             (refine wpAnyH_takeL (i:=28) (v:=?_) HL HP HN rfl (by kernel_rfl) (by kernel_rfl) rfl ?_ hS ?_;rotate_left;focus (intro w2 hw2;obtain ⟨x1,x2,x3,z1,z2,z3⟩:=hw2;go_simp;first | done | with_reducible rfl);(try simp only [Act.put,pu1,pu2,pu3]))
             refine wpAnyH_doneL HL HQ (by kernel_rfl) ?_ _
             simp only [sinkQ]
             go_simp
             go_wp2
             go_meet
             exact ⟨_,Ab,nb,cb,xs,rfl,hBB,hE0.alloc hE0.size _,BoxA.new _ _ _,own_ex ho0 ((Below.refl _ _).alloc lr_ _),hnc6,hcm6,hbits⟩
           ·skip
            go_simp
            have bB:BoxA (w8.alloc (.cells #[.int .i64 0,.int .i64 0,.int .i64 0,.slice none 0 0,.int .i64 0,.int .i64 0,.int .i64 0,.int .i64 0] 75)) w8.heap.size 75 #[.int .i64 0,.int .i64 0,.int .i64 0,.slice none 0 0,.int .i64 0,.int .i64 0,.int .i64 0,.int .i64 0]:=BoxA.new _ _ _
            have hBB:W3.heap.size≤w8.heap.size:=hE.size
            have hal:Below w8.heap.size w8 (w8.alloc (.cells #[.int .i64 0,.int .i64 0,.int .i64 0,.slice none 0 0,.int .i64 0,.int .i64 0,.int .i64 0,.int .i64 0] 75)):=(Below.refl _ _).alloc lr_ _
            have ho0:=ho
            have ho:=own_ex ho hal
            have hE0:=hE
            have hE:=bt_ hE hal
            refine hK.out _ _ (K3.ext hal hS) (fun hS=>?_)
            clear hK K
            (try simp only [Act.put,pu1,pu2,pu3])
            refine wpAnyH_readyL (rs:=[19]) HL (by kernel_rfl) (by simp) ?_
            refine AllReadyH.consL HL rfl rfl (fun K hK=>?_) AllReadyH.nil
            (go_simp;go_at_call 11;refine (r_Mod_v n3 12 v3 _ (by decide) (by decide) HV3.out).mono ?_;rintro e w9 ⟨rfl,rfl⟩;go_simp)
            refine hK.out _ _ hS (fun hS=>?_)
            clear hK K
            (try simp only [Act.put,pu1,pu2,pu3])
            (refine wpAnyH_takeL (i:=20) (v:=?_) HL HP HN rfl (by kernel_rfl) (by kernel_rfl) rfl ?_ hS ?_;rotate_left;focus (intro w2 hw2;obtain ⟨x1,x2,x3,z1,z2,z3⟩:=hw2;go_simp;first | done | with_reducible rfl);(try simp only [Act.put,pu1,pu2,pu3]))
            (refine wpAnyH_takeL (i:=21) (v:=?_) HL HP HN rfl (by kernel_rfl) (by kernel_rfl) rfl ?_ hS ?_;rotate_left;focus (intro w2 hw2;obtain ⟨x1,x2,x3,z1,z2,z3⟩:=hw2;go_simp;first | done | with_reducible rfl);(try simp only [Act.put,pu1,pu2,pu3]))
            refine wpAnyH_readyL (rs:=[25]) HL (by kernel_rfl) (by simp) ?_
            refine AllReadyH.consL HL rfl rfl (fun K hK=>?_) AllReadyH.nil
            (go_simp;go_at_call 11;refine (r_Mod_v n4 12 v4 _ (by decide) (by decide) HV4.out).mono ?_;rintro e w9 ⟨rfl,rfl⟩;go_simp)
            refine hK.out _ _ hS (fun hS=>?_)
            clear hK K
            (try simp only [Act.put,pu1,pu2,pu3])
            (refine wpAnyH_takeL (i:=26) (v:=?_) HL HP HN rfl (by kernel_rfl) (by kernel_rfl) rfl ?_ hS ?_;rotate_left;focus (intro w2 hw2;obtain ⟨x1,x2,x3,z1,z2,z3⟩:=hw2;go_simp;first | done | with_reducible rfl);(try simp only [Act.put,pu1,pu2,pu3]))
            (refine wpAnyH_takeL (i:=27) (v:=?_) HL HP HN rfl (by kernel_rfl) (by kernel_rfl) rfl ?_ hS ?_;rotate_left;focus (intro w2 hw2;obtain ⟨x1,x2,x3,z1,z2,z3⟩:=hw2;go_simp;first | done | with_reducible rfl);(try simp only [Act.put,pu1,pu2,pu3]))
            (refine wpAnyH_takeL (i:=28) (v:=?_) HL HP HN rfl (by kernel_rfl) (by kernel_rfl) rfl ?_ hS ?_;rotate_left;focus (intro w2 hw2;obtain ⟨x1,x2,x3,z1,z2,z3⟩:=hw2;go_simp;first | done | with_reducible rfl);(try simp only [Act.put,pu1,pu2,pu3]))
            refine wpAnyH_doneL HL HQ (by kernel_rfl) ?_ _
            simp only [sinkQ]
            go_simp
            go_wp2
            go_meet
            exact ⟨_,Ab,nb,cb,xs,rfl,hBB,hE0.alloc hE0.size _,BoxA.new _ _ _,own_ex ho0 ((Below.refl _ _).alloc lr_ _),hnc6,hcm6,hbits⟩
          ·skip
           go_simp
           have bB:BoxA (w7.alloc (.cells #[.int .i64 0,.int .i64 0,.int .i64 0,.slice none 0 0,.int .i64 0,.int .i64 0,.int .i64 0,.int .i64 0] 75)) w7.heap.size 75 #[.int .i64 0,.int .i64 0,.int .i64 0,.slice none 0 0,.int .i64 0,.int .i64 0,.int .i64 0,.int .i64 0]:=BoxA.new _ _ _
           have hBB:W3.heap.size≤w7.heap.size:=hE.size
           have hal:Below w7.heap.size w7 (w7.alloc (.cells #[.int .i64 0,.int .i64 0,.int .i64 0,.slice none 0 0,.int .i64 0,.int .i64 0,.int .i64 0,.int .i64 0] 75)):=(Below.refl _ _).alloc lr_ _
           have hE0:=hE
           have hE:=bt_ hE hal
           refine hK.out _ _ (K3.ext hal hS) (fun hS=>?_)
           clear hK K
           (try simp only [Act.put,pu1,pu2,pu3])
           refine wpAnyH_readyL (rs:=[15]) HL (by kernel_rfl) (by simp) ?_
           refine AllReadyH.consL HL rfl rfl (fun K hK=>?_) AllReadyH.nil
           (go_simp;go_at_call 77;refine (r_bits n1 qlv _ hq14).mono ?_;rintro e w8 ⟨Ab,nb,cb,xs,rfl,hb8,ho8,hnc6,hcm6,hbits⟩;go_simp)
           have ho:=own_dn ho8 hE.size
           have hE:=bt_ hE hb8
           have bB:=bB.ext hb8
           refine hK.out _ _ (K3.ext hb8 hS) (fun hS=>?_)
           clear hK K
           (try simp only [Act.put,pu1,pu2,pu3])
           refine wpAnyH_readyL (rs:=[19]) HL (by kernel_rfl) (by simp) ?_
           refine AllReadyH.consL HL rfl rfl (fun K hK=>?_) AllReadyH.nil
           (go_simp;go_at_call 11;refine (r_Mod_v n3 12 v3 _ (by decide) (by decide) HV3.out).mono ?_;rintro e w9 ⟨rfl,rfl⟩;go_simp)
           refine hK.out _ _ hS (fun hS=>?_)
           clear hK K
           (try simp only [Act.put,pu1,pu2,pu3])
           (refine wpAnyH_takeL (i:=20) (v:=?_) HL HP HN rfl (by kernel_rfl) (by kernel_rfl) rfl ?_ hS ?_;rotate_left;focus (intro w2 hw2;obtain ⟨x1,x2,x3,z1,z2,z3⟩:=hw2;go_simp;first | done | with_reducible rfl);(try simp only [Act.put,pu1,pu2,pu3]))
           (refine wpAnyH_takeL (i:=21) (v:=?_) HL HP HN rfl (by kernel_rfl) (by kernel_rfl) rfl ?_ hS ?_;rotate_left;focus (intro w2 hw2;obtain ⟨x1,x2,x3,z1,z2,z3⟩:=hw2;go_simp;first | done | with_reducible rfl);(try simp only [Act.put,pu1,pu2,pu3]))
           refine wpAnyH_readyL (rs:=[25]) HL (by kernel_rfl) (by simp) ?_
           refine AllReadyH.consL HL rfl rfl (fun K hK=>?_) AllReadyH.nil
           (go_simp;go_at_call 11;refine (r_Mod_v n4 12 v4 _ (by decide) (by decide) HV4.out).mono ?_;rintro e w9 ⟨rfl,rfl⟩;go_simp)
           refine hK.out _ _ hS (fun hS=>?_)
           clear hK K
           (try simp only [Act.put,pu1,pu2,pu3])
           (refine wpAnyH_takeL (i:=26) (v:=?_) HL HP HN rfl (by kernel_rfl) (by kernel_rfl) rfl ?_ hS ?_;rotate_left;focus (intro w2 hw2;obtain ⟨x1,x2,x3,z1,z2,z3⟩:=hw2;go_simp;first | done | with_reducible rfl);(try simp only [Act.put,pu1,pu2,pu3]))
           (refine wpAnyH_takeL (i:=27) (v:=?_) HL HP HN rfl (by kernel_rfl) (by kernel_rfl) rfl ?_ hS ?_;rotate_left;focus (intro w2 hw2;obtain ⟨x1,x2,x3,z1,z2,z3⟩:=hw2;go_simp;first | done | with_reducible rfl);(try simp only [Act.put,pu1,pu2,pu3]))
           (refine wpAnyH_takeL (i:=28) (v:=?_) HL HP HN rfl (by kernel_rfl) (by kernel_rfl) rfl ?_ hS ?_;rotate_left;focus (intro w2 hw2;obtain ⟨x1,x2,x3,z1,z2,z3⟩:=hw2;go_simp;first | done | with_reducible rfl);(try simp only [Act.put,pu1,pu2,pu3]))
           have kB:=bB.cell
           have zB:=bB.lt
           have fB:=bB.frozen
           have hfar:=own_ne ho bB (by decide)
           refine wpAnyH_doneL HL HQ (by kernel_rfl) ?_ _
           simp only [sinkQ]
           go_simp
           go_wp2
           go_meet
           refine ⟨_,Ab,nb,cb,xs,rfl,hBB,?_,?_,?_,hnc6,hcm6,hbits⟩
           ·exact bel_far (bel_far (bel_far (bel_far (bel_far (bel_far (bel_far (bel_far hE hBB _ _) hBB _ _) hBB _ _) hBB _ _) hBB _ _) hBB _ _) hBB _ _) hBB _ _
           ·exact bB.set8 _ _ _ _ _ _ _ _
           ·exact own_far (own_far (own_far (own_far (own_far (own_far (own_far (own_far ho hfar _ _) hfar _ _) hfar _ _) hfar _ _) hfar _ _) hfar _ _) hfar _ _) hfar _ _
         ·skip
          go_simp
          have bB:BoxA (W3.drew.alloc (.cells #[.int .i64 0,.int .i64 0,.int .i64 0,.slice none 0 0,.int .i64 0,.int .i64 0,.int .i64 0,.int .i64 0] 75)) W3.heap.size 75 #[.int .i64 0,.int .i64 0,.int .i64 0,.slice none 0 0,.int .i64 0,.int .i64 0,.int .i64 0,.int .i64 0]:=BoxA.new _ _ _
          have hBB:W3.heap.size≤W3.heap.size:=hE.size
          have hal:Below W3.drew.heap.size W3.drew (W3.drew.alloc (.cells #[.int .i64 0,.int .i64 0,.int .i64 0,.slice none 0 0,.int .i64 0,.int .i64 0,.int .i64 0,.int .i64 0] 75)):=(Below.refl _ _).alloc lr_ _
          have hE0:=hE
          have hE:=bt_ hE hal
          refine hK.out _ _ (K3.ext hal hS) (fun hS=>?_)
          clear hK K
          (try simp only [Act.put,pu1,pu2,pu3])
          refine wpAnyH_readyL (rs:=[14]) HL (by kernel_rfl) (by simp) ?_
          refine AllReadyH.consL HL rfl rfl (fun K hK=>?_) AllReadyH.nil
          (go_simp;go_at_call 78;refine (r_leavesOf_v mPp ⟨some ⟨w.heap.size+1+1,0,none⟩,3,3,some ⟨gb,go,none⟩,kR,cR,AT,J,cT,none,0,0⟩ zp qlv _ (by show 3≤9223372036854775807;decide) (HPS.out _ hE) HLQ.out).mono ?_;rintro e w7 ⟨rfl,hb7⟩;go_simp)
          have hE:=bt_ hE hb7
          have bB:=bB.ext hb7
          refine hK.out _ _ (K3.ext hb7 hS) (fun hS=>?_)
          clear hK K
          (try simp only [Act.put,pu1,pu2,pu3])
          refine wpAnyH_readyL (rs:=[15]) HL (by kernel_rfl) (by simp) ?_
          refine AllReadyH.consL HL rfl rfl (fun K hK=>?_) AllReadyH.nil
          (go_simp;go_at_call 77;refine (r_bits n1 qlv _ hq14).mono ?_;rintro e w8 ⟨Ab,nb,cb,xs,rfl,hb8,ho8,hnc6,hcm6,hbits⟩;go_simp)
          have ho:=own_dn ho8 hE.size
          have hE:=bt_ hE hb8
          have bB:=bB.ext hb8
          refine hK.out _ _ (K3.ext hb8 hS) (fun hS=>?_)
          clear hK K
          (try simp only [Act.put,pu1,pu2,pu3])
          refine wpAnyH_readyL (rs:=[19]) HL (by kernel_rfl) (by simp) ?_
          refine AllReadyH.consL HL rfl rfl (fun K hK=>?_) AllReadyH.nil
          (go_simp;go_at_call 11;refine (r_Mod_v n3 12 v3 _ (by decide) (by decide) HV3.out).mono ?_;rintro e w9 ⟨rfl,rfl⟩;go_simp)
          refine hK.out _ _ hS (fun hS=>?_)
          clear hK K
          (try simp only [Act.put,pu1,pu2,pu3])
          (refine wpAnyH_takeL (i:=20) (v:=?_) HL HP HN rfl (by kernel_rfl) (by kernel_rfl) rfl ?_ hS ?_;rotate_left;focus (intro w2 hw2;obtain ⟨x1,x2,x3,z1,z2,z3⟩:=hw2;go_simp;first | done | with_reducible rfl);(try simp only [Act.put,pu1,pu2,pu3]))
          (refine wpAnyH_takeL (i:=21) (v:=?_) HL HP HN rfl (by kernel_rfl) (by kernel_rfl) rfl ?_ hS ?_;rotate_left;focus (intro w2 hw2;obtain ⟨x1,x2,x3,z1,z2,z3⟩:=hw2;go_simp;first | done | with_reducible rfl);(try simp only [Act.put,pu1,pu2,pu3]))
          refine wpAnyH_readyL (rs:=[25]) HL (by kernel_rfl) (by simp) ?_
          refine AllReadyH.consL HL rfl rfl (fun K hK=>?_) AllReadyH.nil
          (go_simp;go_at_call 11;refine (r_Mod_v n4 12 v4 _ (by decide) (by decide) HV4.out).mono ?_;rintro e w9 ⟨rfl,rfl⟩;go_simp)
          refine hK.out _ _ hS (fun hS=>?_)
          clear hK K
          (try simp only [Act.put,pu1,pu2,pu3])
          (refine wpAnyH_takeL (i:=26) (v:=?_) HL HP HN rfl (by kernel_rfl) (by kernel_rfl) rfl ?_ hS ?_;rotate_left;focus (intro w2 hw2;obtain ⟨x1,x2,x3,z1,z2,z3⟩:=hw2;go_simp;first | done | with_reducible rfl);(try simp only [Act.put,pu1,pu2,pu3]))
          (refine wpAnyH_takeL (i:=27) (v:=?_) HL HP HN rfl (by kernel_rfl) (by kernel_rfl) rfl ?_ hS ?_;rotate_left;focus (intro w2 hw2;obtain ⟨x1,x2,x3,z1,z2,z3⟩:=hw2;go_simp;first | done | with_reducible rfl);(try simp only [Act.put,pu1,pu2,pu3]))
          (refine wpAnyH_takeL (i:=28) (v:=?_) HL HP HN rfl (by kernel_rfl) (by kernel_rfl) rfl ?_ hS ?_;rotate_left;focus (intro w2 hw2;obtain ⟨x1,x2,x3,z1,z2,z3⟩:=hw2;go_simp;first | done | with_reducible rfl);(try simp only [Act.put,pu1,pu2,pu3]))
          have kB:=bB.cell
          have zB:=bB.lt
          have fB:=bB.frozen
          have hfar:=own_ne ho bB (by decide)
          refine wpAnyH_doneL HL HQ (by kernel_rfl) ?_ _
          simp only [sinkQ]
          go_simp
          go_wp2
          go_meet
          refine ⟨_,Ab,nb,cb,xs,rfl,hBB,?_,?_,?_,hnc6,hcm6,hbits⟩
          ·exact bel_far (bel_far (bel_far (bel_far (bel_far (bel_far (bel_far (bel_far hE hBB _ _) hBB _ _) hBB _ _) hBB _ _) hBB _ _) hBB _ _) hBB _ _) hBB _ _
          ·exact bB.set8 _ _ _ _ _ _ _ _
          ·exact own_far (own_far (own_far (own_far (own_far (own_far (own_far (own_far ho hfar _ _) hfar _ _) hfar _ _) hfar _ _) hfar _ _) hfar _ _) hfar _ _) hfar _ _
        ·skip
         go_simp
         have bB:BoxA (W3.drew.alloc (.cells #[.int .i64 0,.int .i64 0,.int .i64 0,.slice none 0 0,.int .i64 0,.int .i64 0,.int .i64 0,.int .i64 0] 75)) W3.heap.size 75 #[.int .i64 0,.int .i64 0,.int .i64 0,.slice none 0 0,.int .i64 0,.int .i64 0,.int .i64 0,.int .i64 0]:=BoxA.new _ _ _
         have hBB:W3.heap.size≤W3.heap.size:=hE.size
         have hal:Below W3.drew.heap.size W3.drew (W3.drew.alloc (.cells #[.int .i64 0,.int .i64 0,.int .i64 0,.slice none 0 0,.int .i64 0,.int .i64 0,.int .i64 0,.int .i64 0] 75)):=(Below.refl _ _).alloc lr_ _
         have hE0:=hE
         have hE:=bt_ hE hal
         refine hK.out _ _ (K3.ext hal hS) (fun hS=>?_)
         clear hK K
         (try simp only [Act.put,pu1,pu2,pu3])
         refine wpAnyH_readyL (rs:=[7]) HL (by kernel_rfl) (by simp) ?_
         refine AllReadyH.consL HL rfl rfl (fun K hK=>?_) AllReadyH.nil
         (go_simp;go_at_call 11;refine (r_Mod_v n6 4 v6 _ (by decide) (by decide) HV6.out).mono ?_;rintro e w9 ⟨rfl,rfl⟩;go_simp)
         refine hK.out _ _ hS (fun hS=>?_)
         clear hK K
         (try simp only [Act.put,pu1,pu2,pu3])
         (refine wpAnyH_takeL (i:=8) (v:=?_) HL HP HN rfl (by kernel_rfl) (by kernel_rfl) rfl ?_ hS ?_;rotate_left;focus (intro w2 hw2;obtain ⟨x1,x2,x3,z1,z2,z3⟩:=hw2;go_simp;first | done | with_reducible rfl);(try simp only [Act.put,pu1,pu2,pu3]))
         refine wpAnyH_readyL (rs:=[14]) HL (by kernel_rfl) (by simp) ?_
         refine AllReadyH.consL HL rfl rfl (fun K hK=>?_) AllReadyH.nil
         (go_simp;go_at_call 78;refine (r_leavesOf_v mPp ⟨some ⟨w.heap.size+1+1,0,none⟩,3,3,some ⟨gb,go,none⟩,kR,cR,AT,J,cT,none,0,0⟩ zp qlv _ (by show 3≤9223372036854775807;decide) (HPS.out _ hE) HLQ.out).mono ?_;rintro e w7 ⟨rfl,hb7⟩;go_simp)
         have hE:=bt_ hE hb7
         have bB:=bB.ext hb7
         refine hK.out _ _ (K3.ext hb7 hS) (fun hS=>?_)
         clear hK K
         (try simp only [Act.put,pu1,pu2,pu3])
         refine wpAnyH_readyL (rs:=[15]) HL (by kernel_rfl) (by simp) ?_
         refine AllReadyH.consL HL rfl rfl (fun K hK=>?_) AllReadyH.nil
         (go_simp;go_at_call 77;refine (r_bits n1 qlv _ hq14).mono ?_;rintro e w8 ⟨Ab,nb,cb,xs,rfl,hb8,ho8,hnc6,hcm6,hbits⟩;go_simp)
         have ho:=own_dn ho8 hE.size
         have hE:=bt_ hE hb8
         have bB:=bB.ext hb8
         refine hK.out _ _ (K3.ext hb8 hS) (fun hS=>?_)
         clear hK K
         (try simp only [Act.put,pu1,pu2,pu3])
         refine wpAnyH_readyL (rs:=[19]) HL (by kernel_rfl) (by simp) ?_
         refine AllReadyH.consL HL rfl rfl (fun K hK=>?_) AllReadyH.nil
         (go_simp;go_at_call 11;refine (r_Mod_v n3 12 v3 _ (by decide) (by decide) HV3.out).mono ?_;rintro e w9 ⟨rfl,rfl⟩;go_simp)
         refine hK.out _ _ hS (fun hS=>?_)
         clear hK K
         (try simp only [Act.put,pu1,pu2,pu3])
         (refine wpAnyH_takeL (i:=20) (v:=?_) HL HP HN rfl (by kernel_rfl) (by kernel_rfl) rfl ?_ hS ?_;rotate_left;focus (intro w2 hw2;obtain ⟨x1,x2,x3,z1,z2,z3⟩:=hw2;go_simp;first | done | with_reducible rfl);(try simp only [Act.put,pu1,pu2,pu3]))
         (refine wpAnyH_takeL (i:=21) (v:=?_) HL HP HN rfl (by kernel_rfl) (by kernel_rfl) rfl ?_ hS ?_;rotate_left;focus (intro w2 hw2;obtain ⟨x1,x2,x3,z1,z2,z3⟩:=hw2;go_simp;first | done | with_reducible rfl);(try simp only [Act.put,pu1,pu2,pu3]))
         refine wpAnyH_readyL (rs:=[25]) HL (by kernel_rfl) (by simp) ?_
         refine AllReadyH.consL HL rfl rfl (fun K hK=>?_) AllReadyH.nil
         (go_simp;go_at_call 11;refine (r_Mod_v n4 12 v4 _ (by decide) (by decide) HV4.out).mono ?_;rintro e w9 ⟨rfl,rfl⟩;go_simp)
         refine hK.out _ _ hS (fun hS=>?_)
         clear hK K
         (try simp only [Act.put,pu1,pu2,pu3])
         (refine wpAnyH_takeL (i:=26) (v:=?_) HL HP HN rfl (by kernel_rfl) (by kernel_rfl) rfl ?_ hS ?_;rotate_left;focus (intro w2 hw2;obtain ⟨x1,x2,x3,z1,z2,z3⟩:=hw2;go_simp;first | done | with_reducible rfl);(try simp only [Act.put,pu1,pu2,pu3]))
         (refine wpAnyH_takeL (i:=27) (v:=?_) HL HP HN rfl (by kernel_rfl) (by kernel_rfl) rfl ?_ hS ?_;rotate_left;focus (intro w2 hw2;obtain ⟨x1,x2,x3,z1,z2,z3⟩:=hw2;go_simp;first | done | with_reducible rfl);(try simp only [Act.put,pu1,pu2,pu3]))
         (refine wpAnyH_takeL (i:=28) (v:=?_) HL HP HN rfl (by kernel_rfl) (by kernel_rfl) rfl ?_ hS ?_;rotate_left;focus (intro w2 hw2;obtain ⟨x1,x2,x3,z1,z2,z3⟩:=hw2;go_simp;first | done | with_reducible rfl);(try simp only [Act.put,pu1,pu2,pu3]))
         have kB:=bB.cell
         have zB:=bB.lt
         have fB:=bB.frozen
         have hfar:=own_ne ho bB (by decide)
         refine wpAnyH_doneL HL HQ (by kernel_rfl) ?_ _
         simp only [sinkQ]
         go_simp
         go_wp2
         go_meet
         refine ⟨_,Ab,nb,cb,xs,rfl,hBB,?_,?_,?_,hnc6,hcm6,hbits⟩
         ·exact bel_far (bel_far (bel_far (bel_far (bel_far (bel_far (bel_far (bel_far hE hBB _ _) hBB _ _) hBB _ _) hBB _ _) hBB _ _) hBB _ _) hBB _ _) hBB _ _
         ·exact bB.set8 _ _ _ _ _ _ _ _
         ·exact own_far (own_far (own_far (own_far (own_far (own_far (own_far (own_far ho hfar _ _) hfar _ _) hfar _ _) hfar _ _) hfar _ _) hfar _ _) hfar _ _) hfar _ _
       case rest =>
       obtain ⟨BY,Ab,nb,cb,xs,rfl,hBY,h4,bYY,ho4,hnc6,hcm6,hbits⟩:=hcut
       obtain ⟨W4,rfl⟩:∃ W4:World,W4=wc:=⟨_,rfl⟩
       have h34:Below wr.heap.size wr W4:=bt_ h23 h4
       have hs4:=h4.size
       have hBYr:wr.heap.size≤BY:=by omega
       have HN4:=hd_ (HN3.out.ext h4)
       have HY4:=hd_ bYY
       clear HN3 HO3 HX3 HPS bYY
       go_upto_region 18 with fail
       (refine wp_region_sink_lit (S:=K2 BY wr.heap.size #[.int .i64 (3*(J:Int)+2),.int .i64 zs,.int .i64 (1+(v6:Int)),.slice Ab nb cb,.int .i64 lo,.int .i64 hi2,.int .i64 0,.int .i64 0] #[.int .i64 n0,.int .i64 n1,.int .i64 n2,.int .i64 n3,.int .i64 n4,.int .i64 n5,.int .i64 n6]) 8 (by kernel_rfl) rfl rfl (by kernel_rfl) (by kernel_rfl) ⟨HY4.out.cell,HN4.out.cell,HY4.out.lt,HN4.out.lt⟩ (fun hS=>?_);simp only [List.take_succ_cons,List.take_zero,List.reduceReplicate,Array.replicate_succ,Array.replicate_zero])
       refine wpAnyH_abs (fun _ _ _ _ _ h=>h) (by kernel_rfl) (fun L Q HL HQ HP HN=>?_)
       (refine wpAnyH_takeL (i:=0) (v:=?_) HL HP HN rfl (by kernel_rfl) (by kernel_rfl) rfl ?_ hS ?_;rotate_left;focus (intro w2 hw2;obtain ⟨x1,x2,z1,z2⟩:=hw2;go_simp;first | done | with_reducible rfl);(try simp only [Act.put,pu1,pu2,pu3]))
       (refine wpAnyH_takeL (i:=1) (v:=?_) HL HP HN rfl (by kernel_rfl) (by kernel_rfl) rfl ?_ hS ?_;rotate_left;focus (intro w2 hw2;obtain ⟨x1,x2,z1,z2⟩:=hw2;go_simp;first | done | with_reducible rfl);(try simp only [Act.put,pu1,pu2,pu3]))
       (refine wpAnyH_takeL (i:=2) (v:=?_) HL HP HN rfl (by kernel_rfl) (by kernel_rfl) rfl ?_ hS ?_;rotate_left;focus (intro w2 hw2;obtain ⟨x1,x2,z1,z2⟩:=hw2;go_simp;first | done | with_reducible rfl);(try simp only [Act.put,pu1,pu2,pu3]))
       (refine wpAnyH_takeL (i:=3) (v:=?_) HL HP HN rfl (by kernel_rfl) (by kernel_rfl) rfl ?_ hS ?_;rotate_left;focus (intro w2 hw2;obtain ⟨x1,x2,z1,z2⟩:=hw2;go_simp;first | done | with_reducible rfl);(try simp only [Act.put,pu1,pu2,pu3]))
       (refine wpAnyH_takeL (i:=4) (v:=?_) HL HP HN rfl (by kernel_rfl) (by kernel_rfl) rfl ?_ hS ?_;rotate_left;focus (intro w2 hw2;obtain ⟨x1,x2,z1,z2⟩:=hw2;go_simp;first | done | with_reducible rfl);(try simp only [Act.put,pu1,pu2,pu3]))
       refine wpAnyH_readyL (rs:=[5]) HL (by kernel_rfl) (by simp) ?_
       refine AllReadyH.consL HL rfl rfl (fun K hK=>?_) AllReadyH.nil
       (go_simp;go_at_call 11;refine (r_Mod_v n5 9 v5 _ (by decide) (by decide) HV5.out).mono ?_;rintro e w6 ⟨rfl,rfl⟩;go_simp)
       refine hK.out _ _ hS (fun hS=>?_)
       clear hK K
       (try simp only [Act.put,pu1,pu2,pu3])
       (refine wpAnyH_takeL (i:=6) (v:=?_) HL HP HN rfl (by kernel_rfl) (by kernel_rfl) rfl ?_ hS ?_;rotate_left;focus (intro w2 hw2;obtain ⟨x1,x2,z1,z2⟩:=hw2;go_simp;first | done | with_reducible rfl);(try simp only [Act.put,pu1,pu2,pu3]))
       (refine wpAnyH_takeL (i:=7) (v:=?_) HL HP HN rfl (by kernel_rfl) (by kernel_rfl) rfl ?_ hS ?_;rotate_left;focus (intro w2 hw2;obtain ⟨x1,x2,z1,z2⟩:=hw2;go_simp;first | done | with_reducible rfl);(try simp only [Act.put,pu1,pu2,pu3]))
       have kY:=HY4.out.cell
       have zY:=HY4.out.lt
       have fY:=HY4.out.frozen
       refine wpAnyH_doneL HL HQ (by kernel_rfl) ?_ _
       simp only [sinkQ]
       go_simp
       (try simp only [List.getElem_toArray,List.getElem_cons_succ,List.getElem_cons_zero,Act.put,List.setIfInBounds_toArray,List.set_cons_zero,List.set_cons_succ])
       clear kY zY fY
       go_upto_region 19 with fail
       refine wp_named2 fun f5 W5 hf5 hW5=>?_
       have bY5:BoxA W5 BY 75 #[.int .i64 (3*(J:Int)+2),.int .i64 zs,.int .i64 (1+(v6:Int)),.slice Ab nb cb,.int .i64 lo,.int .i64 hi2,.int .i64 (hi2+(v5:Int)),.int .i64 0]:=by rw [← hW5];exact HY4.out.set86 _
       have h35:Below wr.heap.size wr W5:=by rw [← hW5];exact bel_drew h34 hBYr _ _
       have ho5:W5.ownsRow W3.heap.size 3 1 (.slice Ab nb cb) nb (intL xs):=by rw [← hW5];exact own_drew ho4 (own_ne ho4 HY4.out (by decide)) 6 _
       have hs5:=h35.size
       have hs35:W3.heap.size≤W5.heap.size:=by rw [← hW5];show W3.heap.size≤(W4.setCell _ _).heap.size;rw [World.size_setCell];omega
       have HI5:=hd_ (HI.out.ext h35)
       have HY5:=hd_ bY5
       have bO5:=HI5.out.wo.bO
       have HO5:=hd_ bO5
       have kY:=bY5.cell
       have zY:=bY5.lt
       have kO:=bO5.cell
       have zO:=bO5.lt
       clear hW5 HY4 HN4 bY5 bO5
       subst hf5
       obtain ⟨AD,cD,hvD,hcD⟩:=own_slice HI5.out.d
       subst hvD
       have h58:Below W5.heap.size W5 (W5.alloc (.cells #[.int .i64 (3*(J:Int)+2),.int .i64 zs,.int .i64 (1+(v6:Int)),.slice Ab nb cb,.int .i64 lo,.int .i64 hi2,.int .i64 (hi2+(v5:Int)),.int .i64 0] 75)):=(Below.refl _ _).alloc lr_ _
       have hlv:LvAt wv (W5.alloc (.cells #[.int .i64 (3*(J:Int)+2),.int .i64 zs,.int .i64 (1+(v6:Int)),.slice Ab nb cb,.int .i64 lo,.int .i64 hi2,.int .i64 (hi2+(v5:Int)),.int .i64 0] 75)) (.slice AD J cD) Ab nb cb xs:=⟨⟨hnc6,hcm6⟩,own_ex (own_dn ho5 (by have:=HI.out.wo.sz;omega)) h58,fun b hb e=>by
        have q1:=own_le ho5 hb
        have q2:=own_block HI.out.d e
        obtain ⟨cur,hc⟩:=q2
        have:=block_lt hc
        omega⟩
       have HLV:=hd_ hlv
       have hJs:J≤8:=by omega
       clear hlv
       go_upto_region 20 with (at_builtin;refine wpList_append_own _ rfl (.tmp 155) (.tmp 157) 29 rfl (wv.heap.size) 75 iT _ 8 80 Tryz.underlying29 hiT hz0T hz1T hz2T rfl (by decide) _ _ _ rfl (own_ex HI5.out.wo.t h58) ⟨W5.heap.size,0,none⟩ 1 1 (tvC ⟨⟨3*(J:Int)+2,zs,1+(v6:Int),xs,lo,hi2,hi2+(v5:Int),0⟩,Ab,nb,cb⟩) rfl rfl ?c1 ?c2 ?c3 ?c4 ?c5 ?_;rotate_left 5;intro v8 w8 hown8 hgrow8 _;obtain ⟨A8,c8,rfl,hcc8⟩:=own_slice hown8;have h5o:=own_ex HI5.out.wo.t h58;have bO8:=(HO5.out.ext h58).kept hgrow8 (own_ne h5o (HO5.out.ext h58) (by decide));have kO8:=bO8.cell;have zO8:=bO8.lt;have fO8:=bO8.frozen;have HT8:=hd_ (HI5.out.appT hqq hwv1 h58 (z:=⟨⟨3*(J:Int)+2,zs,1+(v6:Int),xs,lo,hi2,hi2+(v5:Int),0⟩,Ab,nb,cb⟩) hown8 hgrow8 HLV.out (.slice A8 (J+1) c8));clear hown8 hgrow8 h5o bO8)
       (try (case c1=>(exact new_at (by rfl))))
       (try (case c2=>(simp [Value.oneCell'])))
       (try (case c3=>(unfold maxLen;omega)))
       (try (case c4=>(omega)))
       (try (case c5=>(have:=HI5.out.wo.sz;simp;omega)))
       clear kY zY kO zO kO8 zO8 fO8
       refine wp_named2 fun f6 W6 hf6 hW6=>?_
       rw [hW6] at HT8
       clear hW6
       subst hf6
       have h68:Below W6.heap.size W6 (W6.alloc (.cells #[.int .i64 at_] 3)):=(Below.refl _ _).alloc lr_ _
       obtain ⟨vd,hvd⟩:∃ v,Value.slice AD J cD=v:=⟨_,rfl⟩
       rw [hvd] at HT8 ⊢
       clear hvd
       go_wp2_with (at_builtin;refine wpList_append_own_at _ rfl (.tmp 160) (.tmp 162) 33 rfl (wv.heap.size) 3 i0 _ 1 8 Tryz.underlying33 hi hz0 hz1 hz2 rfl (by decide) _ _ _ rfl (own_ex HT8.out.d h68) ⟨W6.heap.size,0,none⟩ 1 1 [.int .i64 at_] rfl rfl ?d1 ?d2 ?d3 ?d4 ?d5 ?_;rotate_left 5;intro v9 w9 hown9 hgrow9 _ hat9;have HT9:=hd_ (HT8.out.appD hwv1 h68 hown9 hgrow9 hat9);clear hown9 hgrow9 hat9)
       (try (case d1=>(exact new_at (by rfl))))
       (try (case d2=>(simp [Value.oneCell'])))
       (try (case d3=>(unfold maxLen;omega)))
       (try (case d4=>(omega)))
       (try (case d5=>(have:=HT8.out.wo.sz;simp;omega)))
       go_roundw
       case rel =>
        refine ⟨J+1,TV ++ [(⟨⟨3*(J:Int)+2,zs,1+(v6:Int),xs,lo,hi2,hi2+(v5:Int),0⟩,Ab,nb,cb⟩:Tv)],DL ++ [at_],A8,c8,by omega,by go_num,by simp [hTl],by simp [hDl],(by exact HT9.out),?_⟩
        rw [List.map_append]
        refine HM.out.addT (by simp [hTl];omega) ⟨by simp [hTl],⟨_,HZM.out,rfl,by dsimp only;omega,by dsimp only;omega⟩,by dsimp only;omega,⟨qlv,hq14.2,hbits⟩,by dsimp only;omega,by dsimp only;omega,rfl⟩
       case measure=>exact ms_
     | false =>
       clear hC
       obtain ⟨AD,cD,hvD,hcD⟩:=own_slice HI.out.d
       subst hvD
       clear kX zX kO zO
       go_wp2_with fail
       go_loopw [15] (fun i wr=>∃ (H:Nat) (SV:List Sgt) (AS:Option Addr) (cS:Nat),H≤6∧i=.int .i64 (H:Int)∧SV.length=H∧MdI w wv wr (w.heap.size+1+1+1) #[.slice (some ⟨w.heap.size+1+1,0,none⟩) 3 3,.slice AR kR cR,.slice AT J cT,.slice AS H cS] kR (.slice AR kR cR) RV J (.slice AT J cT) TV H (.slice AS H cS) SV J (.slice AD J cD) DL∧MkOk d ⟨mPp,RV.map Rv.r,TV.map Tv.r,SV⟩ DL) (fun i _=>6 - (intOf i).toNat)
       case atStart=>exact ⟨0,[],none,0,by omega,rfl,rfl,HI.out,HM.out⟩
       case round =>
        clear HX HP HOB HI HM HBW hsz
        obtain ⟨H,SV,AS,cS,hH6,rfl,hSl,hI,hM⟩:=hrel
        have hsz:=hI.wo.sz
        have bX:BoxA wr w.heap.size 25 #[.slice aA an ac,.slice bA bn bc,.slice cA cn cc]:=(hI.wo.keep _ (by omega) (by omega)).trans HXV.out
        have bP:BoxA wr (w.heap.size+1+1) 38 #[.int .i64 1,.int .i64 4,.int .i64 2,.int .i64 3,.int .i64 5,.int .i64 2]:=(hI.wo.keep _ (by omega) (by omega)).trans HPV.out
        have bO:BoxA wr (w.heap.size+1+1+1) 32 #[.slice (some ⟨w.heap.size+1+1,0,none⟩) 3 3,.slice AR kR cR,.slice AT J cT,.slice AS H cS]:=hI.wo.bO
        have hBW:Below w.heap.size w wr:=hI.wo.bel
        have kX:=bX.cell
        have zX:=bX.lt
        have kO:=bO.cell
        have zO:=bO.lt
        have HX:=hd_ bX
        have HP:=hd_ bP
        have HOB:=hd_ bO
        have HBW:=hd_ hBW
        have HI:=hd_ hI
        have HM:=hd_ hM
        clear hI bX bP bO hM hBW
        go_upto_region 22 with fail
        go_cut [172] from 164 to 164 (fun c wx=>c=.bool (decide (H<cn) && decide (H<6))∧wx=wr)
        case first =>
         by_cases h1:H<cn
         ·by_cases h2:H<6
          ·go_wp2_with fail
           go_meet
           exact ⟨by first | (simp [h1,h2];done) | (simp [h1,h2];omega),rfl⟩
          ·go_wp2_with fail
           go_meet
           exact ⟨by first | (simp [h1,h2];done) | (simp [h1,h2];omega),rfl⟩
         ·go_wp2_with fail
          go_meet
          exact ⟨by first | (simp [h1];done) | (simp [h1];omega),rfl⟩
        case rest =>
        obtain ⟨rfl,hwc⟩:=hcut
        obtain rfl:wr=wc:=hwc.symm
        cases hC:(decide (H<cn) && decide (H<6)) with
        | true =>
          simp only [Bool.and_eq_true,decide_eq_true_eq] at hC
          obtain ⟨hKa,hH6'⟩:=hC
          obtain ⟨b,o,hA,hb,hec⟩:=raw_at HRC.out hKa
          have hec2:∀ j,j<5→wr.cell? ⟨b,o+H*5+j,none⟩=some (.int .i64 (r.c.getD (H*5+j) 0)):=fun j hj=>(HBW.out.cell (p:=⟨b,o+H*5+j,none⟩) hb).trans (hec j hj)
          have hbr:b<wr.heap.size:=by have:=HBW.out.size;omega
          obtain ⟨n0,hn0⟩:∃ n,r.c.getD (H*5+0) 0=n:=⟨_,rfl⟩
          obtain ⟨n1,hn1⟩:∃ n,r.c.getD (H*5+1) 0=n:=⟨_,rfl⟩
          obtain ⟨n2,hn2⟩:∃ n,r.c.getD (H*5+2) 0=n:=⟨_,rfl⟩
          obtain ⟨n3,hn3⟩:∃ n,r.c.getD (H*5+3) 0=n:=⟨_,rfl⟩
          obtain ⟨n4,hn4⟩:∃ n,r.c.getD (H*5+4) 0=n:=⟨_,rfl⟩
          have e0:=hec2 0 (by decide)
          have e1:=hec2 1 (by decide)
          have e2:=hec2 2 (by decide)
          have e3:=hec2 3 (by decide)
          have e4:=hec2 4 (by decide)
          rw [hn0,Nat.add_zero] at e0
          rw [hn1] at e1
          rw [hn2] at e2
          rw [hn3] at e3
          rw [hn4] at e4
          subst hA
          clear hec hec2 hn0 hn1 hn2 hn3 hn4
          go_upto_region 25 with fail
          refine wp_named2 fun f2 W1 hf2 hW1=>?_
          have bN:BoxA W1 wr.heap.size 68 #[.int .i64 n0,.int .i64 n1,.int .i64 n2,.int .i64 n3,.int .i64 n4]:=by rw [← hW1];exact BoxA.new _ _ _
          have h1:Below wr.heap.size wr W1:=by rw [← hW1];exact bel_
          have hs1:=h1.size
          have bO1:=HOB.out.ext h1
          have bP1:=HP.out.ext h1
          have HBN:=hd_ bN
          have HOB1:=hd_ bO1
          have HP1:=hd_ bP1
          have hPlt:=bP1.lt
          clear hW1 e0 e1 e2 e3 e4 kX zX kO zO bN bO1 bP1
          subst hf2
          obtain ⟨m,hm,hm3⟩:=mod_nat n1 (m:=3) (by decide)
          obtain ⟨p,hp,hpm,hpl1,hpl4,hpi1,hpi5⟩:=pp_at hm3
          have HEC:=hd_ (pp_cells HP1.out hp)
          obtain ⟨pid,plv⟩:=p
          dsimp only at hpl1 hpl4 hpi1 hpi5
          have HMM:=hd_ hm
          have HPM:=hd_ hpm
          have hd160:d≤160:=HM.out.dd
          clear hm hp hpm
          go_cut [17] from 164 to 164 (fun c wx=>∃ B,c=.pointer (some ⟨B,0,none⟩)∧W1.heap.size≤B∧Below W1.heap.size W1 wx∧BoxA wx B 38 #[.int .i64 pid,.int .i64 plv])
          case first =>
           as_aux_lemma =>
            (refine wp_region_sink_lit (S:=KE wr.heap.size (w.heap.size+1+1+1) #[.int .i64 n0,.int .i64 n1,.int .i64 n2,.int .i64 n3,.int .i64 n4] #[.slice (some ⟨w.heap.size+1+1,0,none⟩) 3 3,.slice AR kR cR,.slice AT J cT,.slice AS H cS] (w.heap.size+1+1) (m*2) (ppC ⟨pid,plv⟩)) 8 (by kernel_rfl) rfl rfl (by kernel_rfl) (by kernel_rfl) ⟨⟨HBN.out.cell,HOB1.out.cell,HBN.out.lt,HOB1.out.lt⟩,hPlt,HEC.out⟩ (fun hS=>?_);simp only [List.take_succ_cons,List.take_zero,List.reduceReplicate,Array.replicate_succ,Array.replicate_zero])
            refine wpAnyH_abs (fun _ _ _ _ _ h=>h) (by kernel_rfl) (fun L Q HL HQ HP HN=>?_)
            (refine wpAnyH_takeL (i:=0) (v:=?_) HL HP HN rfl (by kernel_rfl) (by kernel_rfl) rfl ?_ hS ?_;rotate_left;focus (intro w2 hw2;obtain ⟨⟨x1,x2,z1,z2⟩,z3,hec⟩:=hw2;have g0:=hec 0 _ rfl;have g1:=hec 1 _ rfl;simp only [Nat.add_zero] at g0;clear hec;go_simp;first | done | with_reducible rfl);(try simp only [Act.put,pu1,pu2,pu3]))
            (refine wpAnyH_takeL (i:=1) (v:=?_) HL HP HN rfl (by kernel_rfl) (by kernel_rfl) rfl ?_ hS ?_;rotate_left;focus (intro w2 hw2;obtain ⟨⟨x1,x2,z1,z2⟩,z3,hec⟩:=hw2;have g0:=hec 0 _ rfl;have g1:=hec 1 _ rfl;simp only [Nat.add_zero] at g0;clear hec;go_simp;first | done | with_reducible rfl);(try simp only [Act.put,pu1,pu2,pu3]))
            (refine wpAnyH_takeL (i:=2) (v:=?_) HL HP HN rfl (by kernel_rfl) (by kernel_rfl) rfl ?_ hS ?_;rotate_left;focus (intro w2 hw2;obtain ⟨⟨x1,x2,z1,z2⟩,z3,hec⟩:=hw2;have g0:=hec 0 _ rfl;have g1:=hec 1 _ rfl;simp only [Nat.add_zero] at g0;clear hec;go_simp;first | done | with_reducible rfl);(try simp only [Act.put,pu1,pu2,pu3]))
            (refine wpAnyH_takeL (i:=3) (v:=?_) HL HP HN rfl (by kernel_rfl) (by kernel_rfl) rfl ?_ hS ?_;rotate_left;focus (intro w2 hw2;obtain ⟨⟨x1,x2,z1,z2⟩,z3,hec⟩:=hw2;have g0:=hec 0 _ rfl;have g1:=hec 1 _ rfl;simp only [Nat.add_zero] at g0;clear hec;go_simp;first | done | with_reducible rfl);(try simp only [Act.put,pu1,pu2,pu3]))
            refine wpAnyH_readyL (rs:=[4,7]) HL (by kernel_rfl) (by simp) ?_
            refine AllReadyH.consL HL rfl rfl (fun K hK=>?_) (AllReadyH.consL HL rfl rfl (fun K hK=>?_) AllReadyH.nil)
            ·skip
             (go_simp;go_at_call 11;refine (r_Mod_v n1 3 m _ (by decide) (by decide) HMM.out).mono ?_;rintro e w6 ⟨rfl,rfl⟩;go_simp)
             refine hK.out _ _ hS (fun hS=>?_)
             clear hK K
             (try simp only [Act.put,pu1,pu2,pu3])
             (refine wpAnyH_takeL (i:=5) (v:=?_) HL HP HN rfl (by kernel_rfl) (by kernel_rfl) rfl ?_ hS ?_;rotate_left;focus (intro w2 hw2;obtain ⟨⟨x1,x2,z1,z2⟩,z3,hec⟩:=hw2;have g0:=hec 0 _ rfl;have g1:=hec 1 _ rfl;simp only [Nat.add_zero] at g0;clear hec;go_simp;first | done | with_reducible rfl);(try simp only [Act.put,pu1,pu2,pu3]))
             (refine wpAnyH_takeL (i:=6) (v:=?_) HL HP HN rfl (by kernel_rfl) (by kernel_rfl) rfl ?_ hS ?_;rotate_left;focus (intro w2 hw2;obtain ⟨⟨x1,x2,z1,z2⟩,z3,hec⟩:=hw2;have g0:=hec 0 _ rfl;have g1:=hec 1 _ rfl;simp only [Nat.add_zero] at g0;clear hec;go_simp;first | done | with_reducible rfl);(try simp only [Act.put,pu1,pu2,pu3]))
             refine wpAnyH_readyL (rs:=[7]) HL (by kernel_rfl) (by simp) ?_
             refine AllReadyH.consL HL rfl rfl (fun K hK=>?_) AllReadyH.nil
             go_simp
             refine hK.out _ _ (KE.ext ((Below.refl _ _).alloc lr_ _) hS) (fun hS=>?_)
             clear hK K
             (try simp only [Act.put,pu1,pu2,pu3])
             refine wpAnyH_doneL HL HQ (by kernel_rfl) ?_ _
             simp only [sinkQ]
             go_simp
             go_wp2
             go_meet
             exact ⟨_,rfl,lr_,by exact bel_,BoxA.new _ _ _⟩
            ·skip
             go_simp
             refine hK.out _ _ (KE.ext ((Below.refl _ _).alloc lr_ _) hS) (fun hS=>?_)
             clear hK K
             (try simp only [Act.put,pu1,pu2,pu3])
             refine wpAnyH_readyL (rs:=[4]) HL (by kernel_rfl) (by simp) ?_
             refine AllReadyH.consL HL rfl rfl (fun K hK=>?_) AllReadyH.nil
             (go_simp;go_at_call 11;refine (r_Mod_v n1 3 m _ (by decide) (by decide) HMM.out).mono ?_;rintro e w6 ⟨rfl,rfl⟩;go_simp)
             refine hK.out _ _ hS (fun hS=>?_)
             clear hK K
             (try simp only [Act.put,pu1,pu2,pu3])
             (refine wpAnyH_takeL (i:=5) (v:=?_) HL HP HN rfl (by kernel_rfl) (by kernel_rfl) rfl ?_ hS ?_;rotate_left;focus (intro w2 hw2;obtain ⟨⟨x1,x2,z1,z2⟩,z3,hec⟩:=hw2;have g0:=hec 0 _ rfl;have g1:=hec 1 _ rfl;simp only [Nat.add_zero] at g0;clear hec;go_simp;first | done | with_reducible rfl);(try simp only [Act.put,pu1,pu2,pu3]))
             (refine wpAnyH_takeL (i:=6) (v:=?_) HL HP HN rfl (by kernel_rfl) (by kernel_rfl) rfl ?_ hS ?_;rotate_left;focus (intro w2 hw2;obtain ⟨⟨x1,x2,z1,z2⟩,z3,hec⟩:=hw2;have g0:=hec 0 _ rfl;have g1:=hec 1 _ rfl;simp only [Nat.add_zero] at g0;clear hec;go_simp;first | done | with_reducible rfl);(try simp only [Act.put,pu1,pu2,pu3]))
             refine wpAnyH_doneL HL HQ (by kernel_rfl) ?_ _
             simp only [sinkQ]
             go_simp
             go_wp2
             go_meet
             exact ⟨_,rfl,lr_,by exact bel_,BoxA.new _ _ _⟩
          case rest =>
          obtain ⟨B2,rfl,hB2,h2,bQ⟩:=hcut
          obtain ⟨W2,rfl⟩:∃ W2:World,W2=wc:=⟨_,rfl⟩
          have hs2:=h2.size
          have h12:Below wr.heap.size wr W2:=bt_ h1 h2
          have HN2:=hd_ (HBN.out.ext h2)
          have HQ2:=hd_ bQ
          obtain ⟨v2,hv2,hv2b⟩:=mod_nat n2 (m:=plv) (by omega)
          obtain ⟨v3,hv3,hv3b⟩:=mod_nat n3 (m:=d+20) (by omega)
          obtain ⟨v0,hv0,hv0b⟩:=mod_nat n0 (m:=5) (by decide)
          obtain ⟨v4,hv4,hv4b⟩:=mod_nat n4 (m:=4) (by decide)
          obtain ⟨v30,hv30,hv30b⟩:=mod_nat n4 (m:=30) (by decide)
          have HV2:=hd_ hv2
          have HV3:=hd_ hv3
          have HV0:=hd_ hv0
          have HV4:=hd_ hv4
          have HV30:=hd_ hv30
          clear hv2 hv3 hv0 hv4 hv30 bQ HOB1 HBN HEC HP1
          go_upto_region 26 with fail
          have w26:IntKind.i64.wrap (3*(H:Int))=3*(H:Int):=wrap_in (by omega) (by omega)
          have w27:IntKind.i64.wrap (3*(H:Int)+3)=3*(H:Int)+3:=wrap_in (by omega) (by omega)
          have w28:IntKind.i64.wrap (1+(v2:Int))=1+(v2:Int):=wrap_in (by omega) (by omega)
          have w29:IntKind.i64.wrap (d+20)=d+20:=wrap_in (by omega) (by omega)
          have w30:IntKind.i64.wrap ((v3:Int)+(v30:Int))=(v3:Int)+(v30:Int):=wrap_in (by omega) (by omega)
          go_cut [18] from 164 to 164 (fun c wx=>∃ B,c=.pointer (some ⟨B,0,none⟩)∧W2.heap.size≤B∧Below W2.heap.size W2 wx∧BoxA wx B 70 #[.int .i64 (3*(H:Int)+3),.int .i64 (v0:Int),.int .i64 pid,.int .i64 (1+(v2:Int)),.int .i64 (v3:Int),.int .i64 0,.int .i64 0])
          case first =>
           (refine wp_region_sink_lit (S:=K2 wr.heap.size B2 #[.int .i64 n0,.int .i64 n1,.int .i64 n2,.int .i64 n3,.int .i64 n4] #[.int .i64 pid,.int .i64 plv]) 21 (by kernel_rfl) rfl rfl (by kernel_rfl) (by kernel_rfl) ⟨HN2.out.cell,HQ2.out.cell,HN2.out.lt,HQ2.out.lt⟩ (fun hS=>?_);simp only [List.take_succ_cons,List.take_zero,List.reduceReplicate,Array.replicate_succ,Array.replicate_zero])
           refine wpAnyH_abs (fun _ _ _ _ _ h=>h) (by kernel_rfl) (fun L Q HL HQ HP HN=>?_)
           (refine wpAnyH_takeL (i:=0) (v:=?_) HL HP HN rfl (by kernel_rfl) (by kernel_rfl) rfl ?_ hS ?_;rotate_left;focus (intro w2 hw2;obtain ⟨x1,x2,z1,z2⟩:=hw2;go_simp;first | done | with_reducible rfl);(try simp only [Act.put,pu1,pu2,pu3]))
           (refine wpAnyH_takeL (i:=1) (v:=?_) HL HP HN rfl (by kernel_rfl) (by kernel_rfl) rfl ?_ hS ?_;rotate_left;focus (intro w2 hw2;obtain ⟨x1,x2,z1,z2⟩:=hw2;go_simp;first | done | with_reducible rfl);(try simp only [Act.put,pu1,pu2,pu3]))
           (refine wpAnyH_takeL (i:=2) (v:=?_) HL HP HN rfl (by kernel_rfl) (by kernel_rfl) rfl ?_ hS ?_;rotate_left;focus (intro w2 hw2;obtain ⟨x1,x2,z1,z2⟩:=hw2;go_simp;first | done | with_reducible rfl);(try simp only [Act.put,pu1,pu2,pu3]))
           (refine wpAnyH_takeL (i:=3) (v:=?_) HL HP HN rfl (by kernel_rfl) (by kernel_rfl) rfl ?_ hS ?_;rotate_left;focus (intro w2 hw2;obtain ⟨x1,x2,z1,z2⟩:=hw2;go_simp;first | done | with_reducible rfl);(try simp only [Act.put,pu1,pu2,pu3]))
           (refine wpAnyH_takeL (i:=4) (v:=?_) HL HP HN rfl (by kernel_rfl) (by kernel_rfl) rfl ?_ hS ?_;rotate_left;focus (intro w2 hw2;obtain ⟨x1,x2,z1,z2⟩:=hw2;go_simp;first | done | with_reducible rfl);(try simp only [Act.put,pu1,pu2,pu3]))
           (refine wpAnyH_takeL (i:=5) (v:=?_) HL HP HN rfl (by kernel_rfl) (by kernel_rfl) rfl ?_ hS ?_;rotate_left;focus (intro w2 hw2;obtain ⟨x1,x2,z1,z2⟩:=hw2;go_simp;first | done | with_reducible rfl);(try simp only [Act.put,pu1,pu2,pu3]))
           (refine wpAnyH_takeL (i:=6) (v:=?_) HL HP HN rfl (by kernel_rfl) (by kernel_rfl) rfl ?_ hS ?_;rotate_left;focus (intro w2 hw2;obtain ⟨x1,x2,z1,z2⟩:=hw2;go_simp;first | done | with_reducible rfl);(try simp only [Act.put,pu1,pu2,pu3]))
           (refine wpAnyH_takeL (i:=7) (v:=?_) HL HP HN rfl (by kernel_rfl) (by kernel_rfl) rfl ?_ hS ?_;rotate_left;focus (intro w2 hw2;obtain ⟨x1,x2,z1,z2⟩:=hw2;go_simp;first | done | with_reducible rfl);(try simp only [Act.put,pu1,pu2,pu3]))
           (refine wpAnyH_takeL (i:=8) (v:=?_) HL HP HN rfl (by kernel_rfl) (by kernel_rfl) rfl ?_ hS ?_;rotate_left;focus (intro w2 hw2;obtain ⟨x1,x2,z1,z2⟩:=hw2;go_simp;first | done | with_reducible rfl);(try simp only [Act.put,pu1,pu2,pu3]))
           (refine wpAnyH_takeL (i:=11) (v:=?_) HL HP HN rfl (by kernel_rfl) (by kernel_rfl) rfl ?_ hS ?_;rotate_left;focus (intro w2 hw2;obtain ⟨x1,x2,z1,z2⟩:=hw2;go_simp;first | done | with_reducible rfl);(try simp only [Act.put,pu1,pu2,pu3]))
           (refine wpAnyH_takeL (i:=12) (v:=?_) HL HP HN rfl (by kernel_rfl) (by kernel_rfl) rfl ?_ hS ?_;rotate_left;focus (intro w2 hw2;obtain ⟨x1,x2,z1,z2⟩:=hw2;go_simp;first | done | with_reducible rfl);(try simp only [Act.put,pu1,pu2,pu3]))
           (refine wpAnyH_takeL (i:=13) (v:=?_) HL HP HN rfl (by kernel_rfl) (by kernel_rfl) rfl ?_ hS ?_;rotate_left;focus (intro w2 hw2;obtain ⟨x1,x2,z1,z2⟩:=hw2;go_simp;first | done | with_reducible rfl);(try simp only [Act.put,pu1,pu2,pu3]))
           (refine wpAnyH_takeL (i:=14) (v:=?_) HL HP HN rfl (by kernel_rfl) (by kernel_rfl) rfl ?_ hS ?_;rotate_left;focus (intro w2 hw2;obtain ⟨x1,x2,z1,z2⟩:=hw2;go_simp;first | done | with_reducible rfl);(try simp only [Act.put,pu1,pu2,pu3]))
           (refine wpAnyH_takeL (i:=16) (v:=?_) HL HP HN rfl (by kernel_rfl) (by kernel_rfl) rfl ?_ hS ?_;rotate_left;focus (intro w2 hw2;obtain ⟨x1,x2,z1,z2⟩:=hw2;go_simp;first | done | with_reducible rfl);(try simp only [Act.put,pu1,pu2,pu3]))
           (refine wpAnyH_takeL (i:=17) (v:=?_) HL HP HN rfl (by kernel_rfl) (by kernel_rfl) rfl ?_ hS ?_;rotate_left;focus (intro w2 hw2;obtain ⟨x1,x2,z1,z2⟩:=hw2;go_simp;first | done | with_reducible rfl);(try simp only [Act.put,pu1,pu2,pu3]))
           refine wpAnyH_readyL (rs:=[9,20]) HL (by kernel_rfl) (by simp) ?_
           refine AllReadyH.consL HL rfl rfl (fun K hK=>?_) (AllReadyH.consL HL rfl rfl (fun K hK=>?_) AllReadyH.nil)
           ·skip
            (go_simp;go_at_call 11;refine (r_Mod_v n2 plv v2 _ (by omega) (by omega) HV2.out).mono ?_;rintro e w6 ⟨rfl,rfl⟩;go_simp)
            refine hK.out _ _ hS (fun hS=>?_)
            clear hK K
            (try simp only [Act.put,pu1,pu2,pu3])
            (refine wpAnyH_takeL (i:=10) (v:=?_) HL HP HN rfl (by kernel_rfl) (by kernel_rfl) rfl ?_ hS ?_;rotate_left;focus (intro w2 hw2;obtain ⟨x1,x2,z1,z2⟩:=hw2;go_simp;first | done | with_reducible rfl);(try simp only [Act.put,pu1,pu2,pu3]))
            refine wpAnyH_readyL (rs:=[15,20]) HL (by kernel_rfl) (by simp) ?_
            refine AllReadyH.consL HL rfl rfl (fun K hK=>?_) (AllReadyH.consL HL rfl rfl (fun K hK=>?_) AllReadyH.nil)
            ·skip
             (go_simp;go_at_call 11;refine (r_Mod_v n3 (d+20) v3 _ (by omega) (by omega) HV3.out).mono ?_;rintro e w6 ⟨rfl,rfl⟩;go_simp)
             refine hK.out _ _ hS (fun hS=>?_)
             clear hK K
             (try simp only [Act.put,pu1,pu2,pu3])
             refine wpAnyH_readyL (rs:=[18,20]) HL (by kernel_rfl) (by simp) ?_
             refine AllReadyH.consL HL rfl rfl (fun K hK=>?_) (AllReadyH.consL HL rfl rfl (fun K hK=>?_) AllReadyH.nil)
             ·skip
              (go_simp;go_at_call 11;refine (r_Mod_v n0 5 v0 _ (by decide) (by decide) HV0.out).mono ?_;rintro e w6 ⟨rfl,rfl⟩;go_simp)
              refine hK.out _ _ hS (fun hS=>?_)
              clear hK K
              (try simp only [Act.put,pu1,pu2,pu3])
              (refine wpAnyH_takeL (i:=19) (v:=?_) HL HP HN rfl (by kernel_rfl) (by kernel_rfl) rfl ?_ hS ?_;rotate_left;focus (intro w2 hw2;obtain ⟨x1,x2,z1,z2⟩:=hw2;go_simp;first | done | with_reducible rfl);(try simp only [Act.put,pu1,pu2,pu3]))
              refine wpAnyH_readyL (rs:=[20]) HL (by kernel_rfl) (by simp) ?_
              refine AllReadyH.consL HL rfl rfl (fun K hK=>?_) AllReadyH.nil
              go_simp
              refine hK.out _ _ (K2.ext ((Below.refl _ _).alloc lr_ _) hS) (fun hS=>?_)
              clear hK K
              (try simp only [Act.put,pu1,pu2,pu3])
              refine wpAnyH_doneL HL HQ (by kernel_rfl) ?_ _
              simp only [sinkQ]
              go_simp
              go_wp2
              go_meet
              exact ⟨_,rfl,lr_,by exact bel_,BoxA.new _ _ _⟩
             ·skip
              go_simp
              refine hK.out _ _ (K2.ext ((Below.refl _ _).alloc lr_ _) hS) (fun hS=>?_)
              clear hK K
              (try simp only [Act.put,pu1,pu2,pu3])
              refine wpAnyH_readyL (rs:=[18]) HL (by kernel_rfl) (by simp) ?_
              refine AllReadyH.consL HL rfl rfl (fun K hK=>?_) AllReadyH.nil
              (go_simp;go_at_call 11;refine (r_Mod_v n0 5 v0 _ (by decide) (by decide) HV0.out).mono ?_;rintro e w6 ⟨rfl,rfl⟩;go_simp)
              refine hK.out _ _ hS (fun hS=>?_)
              clear hK K
              (try simp only [Act.put,pu1,pu2,pu3])
              (refine wpAnyH_takeL (i:=19) (v:=?_) HL HP HN rfl (by kernel_rfl) (by kernel_rfl) rfl ?_ hS ?_;rotate_left;focus (intro w2 hw2;obtain ⟨x1,x2,z1,z2⟩:=hw2;go_simp;first | done | with_reducible rfl);(try simp only [Act.put,pu1,pu2,pu3]))
              refine wpAnyH_doneL HL HQ (by kernel_rfl) ?_ _
              simp only [sinkQ]
              go_simp
              go_wp2
              go_meet
              exact ⟨_,rfl,lr_,by exact bel_,BoxA.new _ _ _⟩
            ·skip
             go_simp
             refine hK.out _ _ (K2.ext ((Below.refl _ _).alloc lr_ _) hS) (fun hS=>?_)
             clear hK K
             (try simp only [Act.put,pu1,pu2,pu3])
             refine wpAnyH_readyL (rs:=[15]) HL (by kernel_rfl) (by simp) ?_
             refine AllReadyH.consL HL rfl rfl (fun K hK=>?_) AllReadyH.nil
             (go_simp;go_at_call 11;refine (r_Mod_v n3 (d+20) v3 _ (by omega) (by omega) HV3.out).mono ?_;rintro e w6 ⟨rfl,rfl⟩;go_simp)
             refine hK.out _ _ hS (fun hS=>?_)
             clear hK K
             (try simp only [Act.put,pu1,pu2,pu3])
             refine wpAnyH_readyL (rs:=[18]) HL (by kernel_rfl) (by simp) ?_
             refine AllReadyH.consL HL rfl rfl (fun K hK=>?_) AllReadyH.nil
             (go_simp;go_at_call 11;refine (r_Mod_v n0 5 v0 _ (by decide) (by decide) HV0.out).mono ?_;rintro e w6 ⟨rfl,rfl⟩;go_simp)
             refine hK.out _ _ hS (fun hS=>?_)
             clear hK K
             (try simp only [Act.put,pu1,pu2,pu3])
             (refine wpAnyH_takeL (i:=19) (v:=?_) HL HP HN rfl (by kernel_rfl) (by kernel_rfl) rfl ?_ hS ?_;rotate_left;focus (intro w2 hw2;obtain ⟨x1,x2,z1,z2⟩:=hw2;go_simp;first | done | with_reducible rfl);(try simp only [Act.put,pu1,pu2,pu3]))
             refine wpAnyH_doneL HL HQ (by kernel_rfl) ?_ _
             simp only [sinkQ]
             go_simp
             go_wp2
             go_meet
             exact ⟨_,rfl,lr_,by exact bel_,BoxA.new _ _ _⟩
           ·skip
            go_simp
            refine hK.out _ _ (K2.ext ((Below.refl _ _).alloc lr_ _) hS) (fun hS=>?_)
            clear hK K
            (try simp only [Act.put,pu1,pu2,pu3])
            refine wpAnyH_readyL (rs:=[9]) HL (by kernel_rfl) (by simp) ?_
            refine AllReadyH.consL HL rfl rfl (fun K hK=>?_) AllReadyH.nil
            (go_simp;go_at_call 11;refine (r_Mod_v n2 plv v2 _ (by omega) (by omega) HV2.out).mono ?_;rintro e w6 ⟨rfl,rfl⟩;go_simp)
            refine hK.out _ _ hS (fun hS=>?_)
            clear hK K
            (try simp only [Act.put,pu1,pu2,pu3])
            (refine wpAnyH_takeL (i:=10) (v:=?_) HL HP HN rfl (by kernel_rfl) (by kernel_rfl) rfl ?_ hS ?_;rotate_left;focus (intro w2 hw2;obtain ⟨x1,x2,z1,z2⟩:=hw2;go_simp;first | done | with_reducible rfl);(try simp only [Act.put,pu1,pu2,pu3]))
            refine wpAnyH_readyL (rs:=[15]) HL (by kernel_rfl) (by simp) ?_
            refine AllReadyH.consL HL rfl rfl (fun K hK=>?_) AllReadyH.nil
            (go_simp;go_at_call 11;refine (r_Mod_v n3 (d+20) v3 _ (by omega) (by omega) HV3.out).mono ?_;rintro e w6 ⟨rfl,rfl⟩;go_simp)
            refine hK.out _ _ hS (fun hS=>?_)
            clear hK K
            (try simp only [Act.put,pu1,pu2,pu3])
            refine wpAnyH_readyL (rs:=[18]) HL (by kernel_rfl) (by simp) ?_
            refine AllReadyH.consL HL rfl rfl (fun K hK=>?_) AllReadyH.nil
            (go_simp;go_at_call 11;refine (r_Mod_v n0 5 v0 _ (by decide) (by decide) HV0.out).mono ?_;rintro e w6 ⟨rfl,rfl⟩;go_simp)
            refine hK.out _ _ hS (fun hS=>?_)
            clear hK K
            (try simp only [Act.put,pu1,pu2,pu3])
            (refine wpAnyH_takeL (i:=19) (v:=?_) HL HP HN rfl (by kernel_rfl) (by kernel_rfl) rfl ?_ hS ?_;rotate_left;focus (intro w2 hw2;obtain ⟨x1,x2,z1,z2⟩:=hw2;go_simp;first | done | with_reducible rfl);(try simp only [Act.put,pu1,pu2,pu3]))
            refine wpAnyH_doneL HL HQ (by kernel_rfl) ?_ _
            simp only [sinkQ]
            go_simp
            go_wp2
            go_meet
            exact ⟨_,rfl,lr_,by exact bel_,BoxA.new _ _ _⟩
          case rest =>
          obtain ⟨BS,rfl,hBS,h3,bS⟩:=hcut
          obtain ⟨W3,rfl⟩:∃ W3:World,W3=wc:=⟨_,rfl⟩
          have hs3:=h3.size
          have h23:Below wr.heap.size wr W3:=bt_ h12 h3
          have hBSr:wr.heap.size≤BS:=by omega
          have HN3:=hd_ (HN2.out.ext h3)
          have HS3:=hd_ bS
          have hn2lt:wr.heap.size<W2.heap.size:=HN2.out.lt
          clear HN2 HQ2 bS
          have kN:=HN3.out.cell
          have zN:=HN3.out.lt
          by_cases hv43:(v4:Int)=3
          ·have hq43:((v4:Int) != 3)=false:=by simp [hv43]
           go_upto_region 30 with ((go_at_call 11;refine (r_Mod_v n4 4 v4 _ (by decide) (by decide) HV4.out).mono ?_;rintro e w6 ⟨rfl,rfl⟩))
           clear kN zN
           have HN4:=HN3
           have HS4:=HS3
           (refine wp_region_sink_lit (S:=K2 BS wr.heap.size #[.int .i64 (3*(H:Int)+3),.int .i64 (v0:Int),.int .i64 pid,.int .i64 (1+(v2:Int)),.int .i64 (v3:Int),.int .i64 0,.int .i64 0] #[.int .i64 n0,.int .i64 n1,.int .i64 n2,.int .i64 n3,.int .i64 n4]) 7 (by kernel_rfl) rfl rfl (by kernel_rfl) (by kernel_rfl) ⟨HS4.out.cell,HN4.out.cell,HS4.out.lt,HN4.out.lt⟩ (fun hS=>?_);simp only [List.take_succ_cons,List.take_zero,List.reduceReplicate,Array.replicate_succ,Array.replicate_zero])
           refine wpAnyH_abs (fun _ _ _ _ _ h=>h) (by kernel_rfl) (fun L Q HL HQ HP HN=>?_)
           (refine wpAnyH_takeL (i:=0) (v:=?_) HL HP HN rfl (by kernel_rfl) (by kernel_rfl) rfl ?_ hS ?_;rotate_left;focus (intro w2 hw2;obtain ⟨x1,x2,z1,z2⟩:=hw2;go_simp;first | done | with_reducible rfl);(try simp only [Act.put,pu1,pu2,pu3]))
           (refine wpAnyH_takeL (i:=1) (v:=?_) HL HP HN rfl (by kernel_rfl) (by kernel_rfl) rfl ?_ hS ?_;rotate_left;focus (intro w2 hw2;obtain ⟨x1,x2,z1,z2⟩:=hw2;go_simp;first | done | with_reducible rfl);(try simp only [Act.put,pu1,pu2,pu3]))
           (refine wpAnyH_takeL (i:=2) (v:=?_) HL HP HN rfl (by kernel_rfl) (by kernel_rfl) rfl ?_ hS ?_;rotate_left;focus (intro w2 hw2;obtain ⟨x1,x2,z1,z2⟩:=hw2;go_simp;first | done | with_reducible rfl);(try simp only [Act.put,pu1,pu2,pu3]))
           (refine wpAnyH_takeL (i:=3) (v:=?_) HL HP HN rfl (by kernel_rfl) (by kernel_rfl) rfl ?_ hS ?_;rotate_left;focus (intro w2 hw2;obtain ⟨x1,x2,z1,z2⟩:=hw2;go_simp;first | done | with_reducible rfl);(try simp only [Act.put,pu1,pu2,pu3]))
           refine wpAnyH_readyL (rs:=[4]) HL (by kernel_rfl) (by simp) ?_
           refine AllReadyH.consL HL rfl rfl (fun K hK=>?_) AllReadyH.nil
           (go_simp;go_at_call 11;refine (r_Mod_v n4 30 v30 _ (by decide) (by decide) HV30.out).mono ?_;rintro e w6 ⟨rfl,rfl⟩;go_simp)
           refine hK.out _ _ hS (fun hS=>?_)
           clear hK K
           (try simp only [Act.put,pu1,pu2,pu3])
           (refine wpAnyH_takeL (i:=5) (v:=?_) HL HP HN rfl (by kernel_rfl) (by kernel_rfl) rfl ?_ hS ?_;rotate_left;focus (intro w2 hw2;obtain ⟨x1,x2,z1,z2⟩:=hw2;go_simp;first | done | with_reducible rfl);(try simp only [Act.put,pu1,pu2,pu3]))
           (refine wpAnyH_takeL (i:=6) (v:=?_) HL HP HN rfl (by kernel_rfl) (by kernel_rfl) rfl ?_ hS ?_;rotate_left;focus (intro w2 hw2;obtain ⟨x1,x2,z1,z2⟩:=hw2;go_simp;first | done | with_reducible rfl);(try simp only [Act.put,pu1,pu2,pu3]))
           have kY:=HS4.out.cell
           have zY:=HS4.out.lt
           have fY:=HS4.out.frozen
           refine wpAnyH_doneL HL HQ (by kernel_rfl) ?_ _
           simp only [sinkQ]
           go_simp
           (try simp only [List.getElem_toArray,List.getElem_cons_succ,List.getElem_cons_zero,Act.put,List.setIfInBounds_toArray,List.set_cons_zero,List.set_cons_succ])
           clear kY zY fY
           go_upto_region 31 with fail
           refine wp_named2 fun f5 W5 hf5 hW5=>?_
           have bY5:BoxA W5 BS 70 #[.int .i64 (3*(H:Int)+3),.int .i64 (v0:Int),.int .i64 pid,.int .i64 (1+(v2:Int)),.int .i64 (v3:Int),.int .i64 ((v3:Int)+(v30:Int)),.int .i64 0]:=by rw [← hW5];exact HS4.out.set75 _
           have h35:Below wr.heap.size wr W5:=by rw [← hW5];exact bel_drew h23 hBSr _ _
           have hs5:=h35.size
           have HI5:=hd_ (HI.out.ext h35)
           have bO5:=HI5.out.wo.bO
           have HO5:=hd_ bO5
           have kY:=bY5.cell
           have zY:=bY5.lt
           have kO:=bO5.cell
           have zO:=bO5.lt
           clear hW5 HS4 HN4 bY5 bO5
           subst hf5
           have h58:Below W5.heap.size W5 (W5.alloc (.cells #[.int .i64 (3*(H:Int)+3),.int .i64 (v0:Int),.int .i64 pid,.int .i64 (1+(v2:Int)),.int .i64 (v3:Int),.int .i64 ((v3:Int)+(v30:Int)),.int .i64 0] 70)):=(Below.refl _ _).alloc lr_ _
           go_wp2_with (at_builtin;refine wpList_append_own _ rfl (.tmp 232) (.tmp 234) 30 rfl (wv.heap.size) 70 iS _ 7 56 Tryz.underlying30 hiS hz0S hz1S hz2S rfl (by decide) _ _ _ rfl (own_ex HI5.out.wo.s h58) ⟨W5.heap.size,0,none⟩ 1 1 (sgC ⟨3*(H:Int)+3,(v0:Int),pid,1+(v2:Int),(v3:Int),(v3:Int)+(v30:Int),0⟩) rfl rfl ?f1 ?f2 ?f3 ?f4 ?f5 ?_;rotate_left 5;intro v8 w8 hown8 hgrow8 _;obtain ⟨A8,c8,rfl,hcc8⟩:=own_slice hown8;have h5o:=own_ex HI5.out.wo.s h58;have bO8:=(HO5.out.ext h58).kept hgrow8 (own_ne h5o (HO5.out.ext h58) (by decide));have kO8:=bO8.cell;have zO8:=bO8.lt;have fO8:=bO8.frozen;have HT8:=hd_ (HI5.out.appS hqq hwv1 h58 (z:=⟨3*(H:Int)+3,(v0:Int),pid,1+(v2:Int),(v3:Int),(v3:Int)+(v30:Int),0⟩) hown8 hgrow8 (.slice A8 (H+1) c8));clear hown8 hgrow8 h5o bO8)
           (try (case f1=>(exact new_at (by rfl))))
           (try (case f2=>(simp [Value.oneCell'])))
           (try (case f3=>(unfold maxLen;omega)))
           (try (case f4=>(omega)))
           (try (case f5=>(have:=HI5.out.wo.sz;simp;omega)))
           go_roundw
           case rel =>
            refine ⟨H+1,SV ++ [(⟨3*(H:Int)+3,(v0:Int),pid,1+(v2:Int),(v3:Int),(v3:Int)+(v30:Int),0⟩:Sgt)],A8,c8,by omega,by go_num,by simp [hSl],(by exact HT8.out),?_⟩
            exact HM.out.addS (by simp [hSl];omega) ⟨by simp [hSl],by dsimp only;omega,⟨_,HPM.out,rfl,by dsimp only;omega,by dsimp only;omega⟩,by dsimp only;omega,by dsimp only;omega,rfl⟩
           case measure=>exact ms_
          ·have hq43:((v4:Int) != 3)=true:=by simp [hv43]
           have HLO:=hd_ (led_ok HM.out.led)
           have HLED:Hid (∀ W:World,Below W3.heap.size W3 W→LedIn W W.heap.size ⟨some ⟨w.heap.size+1+1,0,none⟩,3,3,AR,kR,cR,AT,J,cT,AS,H,cS⟩ ⟨mPp,RV.map Rv.r,TV.map Tv.r,SV⟩):=by
            show ∀ _,_
            exact fun W hW=>(HI.out.rws.led (pp_read HP.out HP.out.lt) rfl rfl rfl).now (bt_ h23 hW)
           have HDAY:Hid (∀ W:World,Below W3.heap.size W3 W→Is W W.heap.size AD J DL):=by
            show ∀ _,_
            exact fun W hW=>(HI.out.rws.days rfl).now (bt_ h23 hW)
           have bO3:=HOB.out.ext h23
           have kO:=bO3.cell
           have zO:=bO3.lt
           have HBO3:=hd_ bO3
           clear bO3
           go_upto_region 28 with ((go_at_call 11;refine (r_Mod_v n4 4 v4 _ (by decide) (by decide) HV4.out).mono ?_;rintro e w6 ⟨rfl,rfl⟩))
           go_upto_region 29 with ((go_at_call 42;refine (r_look ⟨mPp,RV.map Rv.r,TV.map Tv.r,SV⟩ ⟨some ⟨w.heap.size+1+1,0,none⟩,3,3,AR,kR,cR,AT,J,cT,AS,H,cS⟩ 900 _ HLO.out (HLED.out _ (by exact bel_))).mono ?_;rintro e w7 ⟨BT,ct,rfl,hb7,hT7,hBT⟩;have h7:Below W3.heap.size W3 w7:=bt_ (by exact bel_) hb7;have HT7:=hd_ hT7;clear hT7 hb7))
           clear kN zN kO zO
           refine wp_named2 fun f7 W7 hf7 hW7=>?_
           have bV:BoxA W7 w7.heap.size 89 #[.slice (some ⟨w.heap.size+1+1,0,none⟩) 3 3,.slice AR kR cR,.slice AT J cT,.slice AS H cS,.int .i64 900,.slice (some ⟨BT,0,none⟩) J ct,.slice none 0 0]:=by rw [← hW7];exact BoxA.new _ _ _
           have h77:Below w7.heap.size w7 W7:=by rw [← hW7];exact bel_
           have h37:Below W3.heap.size W3 W7:=bt_ h7 h77
           have HT8:=hd_ (HT7.out.ext h77)
           have HS7:=hd_ (HS3.out.ext h37)
           have HN7:=hd_ (HN3.out.ext h37)
           have kV:=bV.cell
           have zV:=bV.lt
           have kS:=HS7.out.cell
           have zS:=HS7.out.lt
           have fS:=HS7.out.frozen
           have hTL:(tellK (⟨mPp,RV.map Rv.r,TV.map Tv.r,SV⟩:Led) 900 (TV.map Tv.r).length).length=J:=by rw [tellK_len];simp [hTl]
           obtain ⟨pw,hpw⟩:∃ p,whoF (⟨mPp,RV.map Rv.r,TV.map Tv.r,SV⟩:Led) 900 (v3:Int) DL pid (1+(v2:Int))=p:=⟨_,rfl⟩
           have hpw4:=HM.out.who 900 (v3:Int) pid (1+(v2:Int)) DL
           rw [hpw] at hpw4
           have HPW:=hd_ hpw
           have HTL:=hd_ hTL
           have HWI:Hid (∀ W:World,Below W7.heap.size W7 W→Calls Tryz.prog 43 #[.agg #[.slice (some ⟨w.heap.size+1+1,0,none⟩) 3 3,.slice AR kR cR,.slice AT J cT,.slice AS H cS,.int .i64 900,.slice (some ⟨BT,0,none⟩) J ct,.slice none 0 0],.agg #[.int .i64 pid,.int .i64 (1+(v2:Int))],.slice AD J cD,.int .i64 (v3:Int)] W fun e w'=>e=.returned (.int .i64 pw)∧Below W.heap.size W w'):=by
            show ∀ _,_
            intro W hW
            have hc:=r_With (⟨mPp,RV.map Rv.r,TV.map Tv.r,SV⟩:Led) ⟨⟨some ⟨w.heap.size+1+1,0,none⟩,3,3,AR,kR,cR,AT,J,cT,AS,H,cS⟩,900,some ⟨BT,0,none⟩,J,ct,none,0,0⟩ pid (1+(v2:Int)) (v3:Int) DL AD cD W HLO.out rfl (HLED.out _ (bt_ h37 hW)) ((HT8.out.ext hW).sqT HTL.out (HT8.out.ext hW).lt) (HDAY.out _ (bt_ h37 hW))
            exact hc.mono fun e w' h=>⟨by rw [h.1];exact congrArg (fun z=>Ending.returned (.int .i64 z)) HPW.out,h.2⟩
           clear hW7 bV hpw hTL HT7 HS3 HN3
           subst hf7
           go_upto_region 30 with ((go_at_call 43;refine (HWI.out _ (by exact bel_)).mono ?_;rintro e w8 ⟨rfl,hb8⟩;have h78:Below W7.heap.size W7 w8:=bt_ (by exact bel_) hb8;have bS8:=HS7.out.ext h78;have kS8:=bS8.cell;have zS8:=bS8.lt;have fS8:=bS8.frozen;have HS8:=hd_ bS8;have HN8:=hd_ (HN7.out.ext h78);clear hb8 bS8))
           clear kV zV kS zS fS kS8 zS8 fS8
           refine wp_named2 fun f8 W8 hf8 hW8=>?_
           have hNB:wr.heap.size≠BS:=by omega
           have HS4:Hid (BoxA W8 BS 70 #[.int .i64 (3*(H:Int)+3),.int .i64 pw,.int .i64 pid,.int .i64 (1+(v2:Int)),.int .i64 (v3:Int),.int .i64 0,.int .i64 0]):=by show BoxA _ _ _ _;rw [← hW8];exact HS8.out.set71 _
           have HN4:Hid (BoxA W8 wr.heap.size 68 #[.int .i64 n0,.int .i64 n1,.int .i64 n2,.int .i64 n3,.int .i64 n4]):=by show BoxA _ _ _ _;rw [← hW8];exact HN8.out.other hNB _
           have h88:Below wr.heap.size wr W8:=by rw [← hW8];exact bel_far (bt_ h23 (bt_ h37 h78)) hBSr _ _
           clear hW8 HS8 HN8
           subst hf8
           (refine wp_region_sink_lit (S:=K2 BS wr.heap.size #[.int .i64 (3*(H:Int)+3),.int .i64 pw,.int .i64 pid,.int .i64 (1+(v2:Int)),.int .i64 (v3:Int),.int .i64 0,.int .i64 0] #[.int .i64 n0,.int .i64 n1,.int .i64 n2,.int .i64 n3,.int .i64 n4]) 7 (by kernel_rfl) rfl rfl (by kernel_rfl) (by kernel_rfl) ⟨HS4.out.cell,HN4.out.cell,HS4.out.lt,HN4.out.lt⟩ (fun hS=>?_);simp only [List.take_succ_cons,List.take_zero,List.reduceReplicate,Array.replicate_succ,Array.replicate_zero])
           refine wpAnyH_abs (fun _ _ _ _ _ h=>h) (by kernel_rfl) (fun L Q HL HQ HP HN=>?_)
           (refine wpAnyH_takeL (i:=0) (v:=?_) HL HP HN rfl (by kernel_rfl) (by kernel_rfl) rfl ?_ hS ?_;rotate_left;focus (intro w2 hw2;obtain ⟨x1,x2,z1,z2⟩:=hw2;go_simp;first | done | with_reducible rfl);(try simp only [Act.put,pu1,pu2,pu3]))
           (refine wpAnyH_takeL (i:=1) (v:=?_) HL HP HN rfl (by kernel_rfl) (by kernel_rfl) rfl ?_ hS ?_;rotate_left;focus (intro w2 hw2;obtain ⟨x1,x2,z1,z2⟩:=hw2;go_simp;first | done | with_reducible rfl);(try simp only [Act.put,pu1,pu2,pu3]))
           (refine wpAnyH_takeL (i:=2) (v:=?_) HL HP HN rfl (by kernel_rfl) (by kernel_rfl) rfl ?_ hS ?_;rotate_left;focus (intro w2 hw2;obtain ⟨x1,x2,z1,z2⟩:=hw2;go_simp;first | done | with_reducible rfl);(try simp only [Act.put,pu1,pu2,pu3]))
           (refine wpAnyH_takeL (i:=3) (v:=?_) HL HP HN rfl (by kernel_rfl) (by kernel_rfl) rfl ?_ hS ?_;rotate_left;focus (intro w2 hw2;obtain ⟨x1,x2,z1,z2⟩:=hw2;go_simp;first | done | with_reducible rfl);(try simp only [Act.put,pu1,pu2,pu3]))
           refine wpAnyH_readyL (rs:=[4]) HL (by kernel_rfl) (by simp) ?_
           refine AllReadyH.consL HL rfl rfl (fun K hK=>?_) AllReadyH.nil
           (go_simp;go_at_call 11;refine (r_Mod_v n4 30 v30 _ (by decide) (by decide) HV30.out).mono ?_;rintro e w6 ⟨rfl,rfl⟩;go_simp)
           refine hK.out _ _ hS (fun hS=>?_)
           clear hK K
           (try simp only [Act.put,pu1,pu2,pu3])
           (refine wpAnyH_takeL (i:=5) (v:=?_) HL HP HN rfl (by kernel_rfl) (by kernel_rfl) rfl ?_ hS ?_;rotate_left;focus (intro w2 hw2;obtain ⟨x1,x2,z1,z2⟩:=hw2;go_simp;first | done | with_reducible rfl);(try simp only [Act.put,pu1,pu2,pu3]))
           (refine wpAnyH_takeL (i:=6) (v:=?_) HL HP HN rfl (by kernel_rfl) (by kernel_rfl) rfl ?_ hS ?_;rotate_left;focus (intro w2 hw2;obtain ⟨x1,x2,z1,z2⟩:=hw2;go_simp;first | done | with_reducible rfl);(try simp only [Act.put,pu1,pu2,pu3]))
           have kY:=HS4.out.cell
           have zY:=HS4.out.lt
           have fY:=HS4.out.frozen
           refine wpAnyH_doneL HL HQ (by kernel_rfl) ?_ _
           simp only [sinkQ]
           go_simp
           (try simp only [List.getElem_toArray,List.getElem_cons_succ,List.getElem_cons_zero,Act.put,List.setIfInBounds_toArray,List.set_cons_zero,List.set_cons_succ])
           clear kY zY fY
           go_upto_region 31 with fail
           refine wp_named2 fun f5 W5 hf5 hW5=>?_
           have bY5:BoxA W5 BS 70 #[.int .i64 (3*(H:Int)+3),.int .i64 pw,.int .i64 pid,.int .i64 (1+(v2:Int)),.int .i64 (v3:Int),.int .i64 ((v3:Int)+(v30:Int)),.int .i64 0]:=by rw [← hW5];exact HS4.out.set75 _
           have h35:Below wr.heap.size wr W5:=by rw [← hW5];exact bel_drew h88 hBSr _ _
           have hs5:=h35.size
           have HI5:=hd_ (HI.out.ext h35)
           have bO5:=HI5.out.wo.bO
           have HO5:=hd_ bO5
           have kY:=bY5.cell
           have zY:=bY5.lt
           have kO:=bO5.cell
           have zO:=bO5.lt
           clear hW5 HS4 HN4 bY5 bO5
           subst hf5
           have h58:Below W5.heap.size W5 (W5.alloc (.cells #[.int .i64 (3*(H:Int)+3),.int .i64 pw,.int .i64 pid,.int .i64 (1+(v2:Int)),.int .i64 (v3:Int),.int .i64 ((v3:Int)+(v30:Int)),.int .i64 0] 70)):=(Below.refl _ _).alloc lr_ _
           go_wp2_with (at_builtin;refine wpList_append_own _ rfl (.tmp 232) (.tmp 234) 30 rfl (wv.heap.size) 70 iS _ 7 56 Tryz.underlying30 hiS hz0S hz1S hz2S rfl (by decide) _ _ _ rfl (own_ex HI5.out.wo.s h58) ⟨W5.heap.size,0,none⟩ 1 1 (sgC ⟨3*(H:Int)+3,pw,pid,1+(v2:Int),(v3:Int),(v3:Int)+(v30:Int),0⟩) rfl rfl ?g1 ?g2 ?g3 ?g4 ?g5 ?_;rotate_left 5;intro v8 w8 hown8 hgrow8 _;obtain ⟨A8,c8,rfl,hcc8⟩:=own_slice hown8;have h5o:=own_ex HI5.out.wo.s h58;have bO8:=(HO5.out.ext h58).kept hgrow8 (own_ne h5o (HO5.out.ext h58) (by decide));have kO8:=bO8.cell;have zO8:=bO8.lt;have fO8:=bO8.frozen;have HT8:=hd_ (HI5.out.appS hqq hwv1 h58 (z:=⟨3*(H:Int)+3,pw,pid,1+(v2:Int),(v3:Int),(v3:Int)+(v30:Int),0⟩) hown8 hgrow8 (.slice A8 (H+1) c8));clear hown8 hgrow8 h5o bO8)
           (try (case g1=>(exact new_at (by rfl))))
           (try (case g2=>(simp [Value.oneCell'])))
           (try (case g3=>(unfold maxLen;omega)))
           (try (case g4=>(omega)))
           (try (case g5=>(have:=HI5.out.wo.sz;simp;omega)))
           go_roundw
           case rel =>
            refine ⟨H+1,SV ++ [(⟨3*(H:Int)+3,pw,pid,1+(v2:Int),(v3:Int),(v3:Int)+(v30:Int),0⟩:Sgt)],A8,c8,by omega,by go_num,by simp [hSl],(by exact HT8.out),?_⟩
            exact HM.out.addS (by simp [hSl];omega) ⟨by simp [hSl],by dsimp only;omega,⟨_,HPM.out,rfl,by dsimp only;omega,by dsimp only;omega⟩,by dsimp only;omega,by dsimp only;omega,rfl⟩
           case measure=>exact ms_
        | false =>
          clear hC kX zX
          have bR:BoxA wr (w.heap.size+1) 32 #[.slice none 0 0,.slice none 0 0,.slice none 0 0,.slice none 0 0]:=(HI.out.wo.keep _ (by omega) (by omega)).trans HRV.out
          have kRs:=bR.cell
          have zRs:=bR.lt
          have fRs:=bR.frozen
          have hHs:H≤SV.length:=by omega
          go_wp2_with fail
          refine bodyPost_ret (v:=.tuple #[.agg #[.slice (some ⟨w.heap.size+1+1,0,none⟩) 3 3,.slice AR kR cR,.slice AT J cT,.slice AS H cS],.slice AD J cD]) ?_ rfl ?_
          ·(simp [results,Tryz.f22,go_sem];try go_simp)
          ·have hb1:w.heap.size+1<wv.heap.size:=by omega
           have hrw:=(((HI.out.rws.far hb1 0 (.slice (some ⟨w.heap.size+1+1,0,none⟩) 3 3)).far hb1 1 (.slice AR kR cR)).far hb1 2 (.slice AT J cT)).far hb1 3 (.slice AS H cS)
           have hne:w.heap.size+1+1≠w.heap.size+1:=by omega
           have hpp:=(((HP.out.other (p:=⟨w.heap.size+1,0,none⟩) hne (.slice (some ⟨w.heap.size+1+1,0,none⟩) 3 3)).other (p:=⟨w.heap.size+1,1,none⟩) hne (.slice AR kR cR)).other (p:=⟨w.heap.size+1,2,none⟩) hne (.slice AT J cT)).other (p:=⟨w.heap.size+1,3,none⟩) hne (.slice AS H cS)
           have hdl:DL.length=J:=hDl
           refine ⟨⟨some ⟨w.heap.size+1+1,0,none⟩,3,3,AR,kR,cR,AT,J,cT,AS,H,cS⟩,⟨mPp,RV.map Rv.r,TV.map Tv.r,SV⟩,DL,AD,cD,d,by rw [hdl],bel_far (bel_far (bel_far (bel_far HBW.out (by omega) _ _) (by omega) _ _) (by omega) _ _) (by omega) _ _,?_,hrw.led (pp_read hpp hpp.lt) rfl rfl rfl,HM.out,by rw [hdl];exact hrw.days rfl,by rw [hdl];exact hcD.1,hcD.2⟩
           exact ⟨⟨lr_,by show 3≤maxLen;decide⟩,own_cap HI.out.wo.r,own_cap HI.out.wo.t,own_cap HI.out.wo.s⟩
end Go.Proofs.YtmcmbicapdcfmaaGreat
