/- LoanPlaces: for every ledger, every Ask and every list of days, whatever memory they lie in, the Go function LoanPlaces (layer 2, promises P2.1 and P2.3) returns true and leaves its arguments as they read. Conditions: none. -/
import Derived.Test.YtoiompoapikkbaaGreatPcaq
set_option linter.unusedVariables false
set_option linter.unusedSimpArgs false
set_option maxHeartbeats 16000000
namespace Go.Proofs.YtoiompoapikkbaaGreat.RowLoanPlaces
open Go.ChangeShapes Go.WideShapes Go.ChangeAt Go.RowKit
open Go.Proofs.YtoiompoapikkbaaGreat
set_option maxRecDepth 100000 in
theorem lifted (os:Os) (started:os.Started) (H:Type) (enc:TypeId × Value->H) :
 ReturnsInHanded {} Tryz.checked os 6 .any (Rows.loanPlacesSpec.pre6 enc Tryz.prog Tryz.f6 Rows.loanPlacesRow.domain false) (Rows.loanPlacesSpec.post enc Tryz.prog Tryz.f6 false true false false):=by
 refine returnsInHanded_of_change (C:=Tryz.checked) own started (by kernel_rfl) Tryz.func6
  (ChangeSpec.witness6 (enc:=enc) (C:=Tryz.checked) false ⟨#[],#[.agg #[.slice none 0 0,.slice none 0 0,.slice none 0 0,.slice none 0 0],.agg #[.int .i64 0,.int .i64 0,.int .i64 0,.int .i64 0,.int .i64 0,.int .i64 0],.slice none 0 0],[]⟩ 8 (by kernel_rfl) (by kernel_rfl) (by kernel_rfl) (by kernel_rfl)) ?_
 intro W g5 args ds gs g4 g1 hW g8 _
 have g0:∀ (j:Nat) t v,Tryz.f6.params[j]?=some t->args[j]?=some v->Value.okWide Tryz.prog W .any g5 t v:=g1
 have g9:=hW
 obtain ⟨p,q,g6,hV,rfl,gj,gq⟩:=hW
 have hA:DataW.TrodAll enc Tryz.prog W 0 (fun _=>true) true Tryz.f6.params.toList args.toList ds p:=g6
 rw [Tryz.params6] at hA g0
 obtain ⟨v0,vs0,d0,ds0,p0,q0,g7,rfl,rfl,h0,r0⟩:=trodAll_cons hA
 obtain ⟨v1,vs1,d1,ds1,p1,q1,rfl,rfl,rfl,h1,r1⟩:=trodAll_cons r0
 obtain ⟨v2,vs2,d2,ds2,p2,q2,rfl,rfl,rfl,h2,r2⟩:=trodAll_cons r1
 obtain ⟨rfl,rfl,rfl⟩:=trodAll_nil r2
 obtain rfl:args=#[v0,v1,v2]:=by cases args;simp_all
 obtain ⟨rfl,rfl⟩:=trodVars_none hV
 have k0:=h0
 have lt0:∀ x∈p0,x.block<W.heap.size:=by obtain ⟨m,hm⟩:=k0;exact DataW.trod_lt m _ _ _ hm
 obtain ⟨y0,l0,rfl,f0,w0⟩:=ledger_of (g0 0 27 v0 rfl rfl) h0
 have k1:=h1
 have lt1:∀ x∈p1,x.block<W.heap.size:=by obtain ⟨m,hm⟩:=k1;exact DataW.trod_lt m _ _ _ hm
 obtain ⟨x10,x11,x12,x13,x14,x15,rfl,u1⟩:=ask2_of (g0 1 62 v1 rfl rfl) h1
 obtain ⟨a2,len2,cap2,rfl⟩:=okWide_slice Tryz.underlying30 (g0 2 30 v2 rfl rfl)
 have k2:=h2
 have lt2:∀ x∈p2,x.block<W.heap.size:=by obtain ⟨m,hm⟩:=k2;exact DataW.trod_lt m _ _ _ hm
 obtain ⟨g2,m2,z2,w2⟩:len2<=cap2/\cap2<=maxLen/\∃ l,Is W W.heap.size a2 len2 l:=by obtain ⟨fuel,hf⟩:=h2;exact ints_of hf
 clear g6 g1
 unfold maxLen at m2
 refine (w_LoanPlaces l0 y0 x10 x11 x12 x13 x14 x15 z2 a2 len2 cap2 W f0 w0 (by omega) w2).mono fun e W' ⟨he,g3⟩=>?_
 subst he
 exact ⟨_,rfl,_,_,_,[],_,[],g9,trodAll_mk1 (shut_bool Tryz.underlying4 _),(trodAll_cons_mk (Below.trod laidOut (by kernel_rfl) (of_decide_eq_true (by kernel_rfl)) k0 g3 lt0) (trodAll_cons_mk (Below.trod laidOut (by kernel_rfl) (of_decide_eq_true (by kernel_rfl)) k1 g3 lt1) (trodAll_cons_mk (Below.trod laidOut (by kernel_rfl) (of_decide_eq_true (by kernel_rfl)) k2 g3 lt2) trodAll_mk0))),rfl,g3.frame _,fun h=>by cases h⟩
theorem over:Rows.loanPlacesRow.holds Tryz.pinned (OpenSpec.ofChange Rows.loanPlacesSpec) :=
 OpenClaim.holds_of_wide 6 Tryz.f6 rfl rfl rfl rfl rfl rfl rfl ⟨rfl,rfl,rfl,rfl,rfl⟩ rfl rfl rfl rfl rfl (by kernel_rfl) Tryz.func6 (by kernel_rfl)
  (of_decide_eq_true (by kernel_rfl)) (by unfold Func.isWrapper;first | (rw [if_pos (by decide +kernel)];kernel_rfl) | (rw [if_neg (by decide +kernel)];exact ⟨rfl,rfl⟩))
  (fun os started H enc _=>lifted os started H enc)
theorem proved:Rows.LoanPlacesSaid:=over
end Go.Proofs.YtoiompoapikkbaaGreat.RowLoanPlaces
namespace Go.Proofs.YtoiompoapikkbaaGreat
theorem loanPlaces_holds:Rows.LoanPlacesSaid:=RowLoanPlaces.proved
end Go.Proofs.YtoiompoapikkbaaGreat
