/- Layer 2 of the texts that LoanBack takes: Bbqq. -/
import Derived.Test.YtmcmbicapdcfmaaGreatBbpq
set_option linter.unusedVariables false
set_option linter.unusedSimpArgs false
set_option maxHeartbeats 16000000
namespace Go.Proofs.YtmcmbicapdcfmaaGreat
open Go.RowKit Go.Maps
theorem findI_src {rt:List Rtn} (h:rt.Pairwise fun x y=>x.src<y.src) {k:Nat} {t:Rtn} (ht:rt[k]?=some t):rt.findIdx? (fun u=>u.src == t.src)=some k:=by
 rw [List.findIdx?_eq_some_iff_getElem]
 obtain ⟨hk,he⟩:=List.getElem?_eq_some_iff.1 ht
 refine ⟨hk,by simp [he],fun j hj=>?_⟩
 have:=List.pairwise_iff_getElem.1 h j k (by omega) hk hj
 rw [he] at this
 simp
 omega
theorem tel_at {T:List Bool} {rt:List Rtn} {s:Int} (h:s∈telK T rt rt.length):∃ (k:Nat) (t:Rtn),rt[k]?=some t∧T[k]?=some true∧t.src=s:=by
 rw [telK,List.mem_map] at h
 obtain ⟨p,hp,rfl⟩:=h
 obtain ⟨hp,h1⟩:=List.mem_filter.1 hp
 obtain ⟨k,hk,he⟩:=List.mem_iff_getElem.1 (List.mem_of_mem_take hp)
 have hz:(List.zip T rt)[k]?=some p:=by rw [List.getElem?_eq_getElem hk,he]
 obtain ⟨b,t⟩:=p
 rw [List.getElem?_zip_eq_some] at hz
 obtain rfl:b=true:=h1
 exact ⟨k,t,hz.2,hz.1,rfl⟩
theorem at_tel {T:List Bool} {rt:List Rtn} {k:Nat} {t:Rtn} (ht:rt[k]?=some t) (hT:T[k]?=some true):t.src∈telK T rt rt.length:=by
 have hz:(List.zip T rt)[k]?=some (true,t):=by rw [List.getElem?_zip_eq_some];exact ⟨hT,ht⟩
 rw [telK,List.mem_map]
 refine ⟨(true,t),List.mem_filter.2 ⟨?_,rfl⟩,rfl⟩
 rw [List.take_of_length_le (by rw [List.length_zip];omega)]
 exact List.mem_of_getElem? hz
theorem rt_rise {l:Led} (h:ledB l=true):l.rt.Pairwise fun x y=>x.src<y.src:=by
 simp only [ledB,Bool.and_eq_true] at h
 exact val_pair h.2.2.1
theorem tel_ret {l:Led} {kn s:Int} (hl:ledB l=true) (hp:preE l [kn]=0) (hs:setE l kn=0) (h:s∈(telX l kn).1):retE l s kn=0:=by
 rw [telX,if_pos hp] at h
 obtain ⟨k,t,ht,hT,rfl⟩:=tel_at h
 rw [retE,if_pos hp,findI_src (rt_rise hl) ht]
 simp only [hT,if_true,hs]
theorem true_at:∀ {days:List Int} {P:List (Int × Int)},trueD days P=true→∀ {k:Nat} {y:Int} {d:Int × Int},days[k]?=some y→P[k]?=some d→d.1≤y∧y≤d.2:=by
 intro days P h k y d hy hd
 rw [trueD,List.all_eq_true] at h
 have hz:(List.zip days P)[k]?=some (y,d):=by rw [List.getElem?_zip_eq_some];exact ⟨hy,hd⟩
 have:=h _ (List.mem_of_getElem? hz)
 simpa [withinB] using this
theorem true_of {l:Led} {kn:Int} {days:List Int} (h:trueE l kn days=0):days.length=l.rt.length∧setE l kn=0∧trueD days (setP l kn)=true:=by
 unfold trueE at h
 split at h
 ·rename_i h1
  refine ⟨h1.1,h1.2,?_⟩
  cases h2:trueD days (setP l kn)
  ·rw [h2] at h;cases h
  ·rfl
 ·cases h
theorem check_of {l:Led} {kn:Int} {days:List Int} (h:checkTrueX l kn days=0):preE l [kn]=0∧trueE l kn days=0:=by
 unfold checkTrueX at h
 split at h
 ·rename_i h1;exact ⟨h1,h⟩
 ·rename_i h1;exact absurd h h1
end Go.Proofs.YtmcmbicapdcfmaaGreat
namespace Go.Proofs.YtmcmbicapdcfmaaGreat
open Go.RowKit
attribute [local go_sem] Oper.semAt_some
end Go.Proofs.YtmcmbicapdcfmaaGreat
namespace Go.Proofs.YtmcmbicapdcfmaaGreat
open Go.RowKit Go.Maps
end Go.Proofs.YtmcmbicapdcfmaaGreat
