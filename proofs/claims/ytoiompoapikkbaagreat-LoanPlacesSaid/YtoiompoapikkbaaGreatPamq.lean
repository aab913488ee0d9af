/- Layer 2 of the texts that LoanPlaces takes: Pamq. -/
import Derived.Test.YtoiompoapikkbaaGreatPafq
import Derived.Test.YtoiompoapikkbaaGreatPagq
set_option linter.unusedVariables false
set_option linter.unusedSimpArgs false
set_option maxHeartbeats 16000000
namespace Go.Proofs.YtoiompoapikkbaaGreat
open Go.RowKit
theorem p_CheckReceipt (r:Rcp) (A:Option Addr) (n c:Nat) (w:World) (hn:n≤9223372036854775807) (hd:Is w w.heap.size A n r.lv) :
 Calls Tryz.prog 12 #[.agg #[.int .i64 r.src,.int .i64 r.bor,.int .i64 r.pap,.slice A n c,.int .i64 r.day,.int .i64 r.kn,.int .i64 r.un]] w fun e w'=>e=.returned (.int .i64 (errI r.okB 21))∧Below w.heap.size w w':=by
 have HD:=hd_ hd
 clear hd
 go_enter Tryz.func12,Tryz.ntmps12
 go_wp2_with (first | (go_at_call 74;refine (p_isSource _ _).mono ?_;rintro e w1 ⟨rfl,rfl⟩) | (go_at_call 75;refine (p_isPerson _ _).mono ?_;rintro e w1 ⟨rfl,rfl⟩) | (go_at_call 71;refine (p_isPaper _ _).mono ?_;rintro e w1 ⟨rfl,rfl⟩) | (go_at_call 76;refine (p_areLeaves r.lv A n c _ hn (HD.out.now (by exact bel_))).mono ?_;rintro e w1 ⟨rfl,hb1⟩;obtain ⟨hc1,hf1⟩:=bcell hb1;have HB1:Below w.heap.size w w1:=bt_ (by exact bel_) hb1;have hs1:=HB1.size) | (go_at_call 77;refine (p_isDay _ _).mono ?_;rintro e w1 ⟨rfl,rfl⟩) | (go_at_call 78;refine (p_areTimes _ _ _).mono ?_;rintro e w1 ⟨rfl,rfl⟩) | (go_at_call 72;refine (p_within _ _ _ _).mono ?_;rintro e w1 ⟨rfl,rfl⟩) | (go_at_call 70;refine (p_verdict _ _ _).mono ?_;rintro e w1 ⟨rfl,rfl⟩))
 all_goals
  go_ret
  exact ⟨by simp_all [Rcp.okB],by first | assumption | exact bel_⟩
theorem r_CheckReceipt (r:Rcp) (A:Option Addr) (n c:Nat) (w:World) (hn:n≤9223372036854775807) (hd:Is w w.heap.size A n r.lv) :
 Calls Tryz.prog 13 #[.agg #[.int .i64 r.src,.int .i64 r.bor,.int .i64 r.pap,.slice A n c,.int .i64 r.day,.int .i64 r.kn,.int .i64 r.un]] w fun e w'=>e=.returned (.int .i64 (errI r.okB 21))∧Below w.heap.size w w':=by
 have HD:=hd_ hd
 clear hd
 go_enter Tryz.func13,Tryz.ntmps13
 go_wp2_with (first | (go_at_call 79;refine (r_isSource2 _ _).mono ?_;rintro e w1 ⟨rfl,rfl⟩) | (go_at_call 80;refine (r_areLeaves2 r.lv A n c _ hn (HD.out.now (by exact bel_))).mono ?_;rintro e w1 ⟨rfl,hb1⟩;obtain ⟨hc1,hf1⟩:=bcell hb1;have HB1:Below w.heap.size w w1:=bt_ (by exact bel_) hb1;have hs1:=HB1.size) | (go_at_call 81;refine (r_isDay2 _ _).mono ?_;rintro e w1 ⟨rfl,rfl⟩) | (go_at_call 82;refine (r_areTimes2 _ _ _).mono ?_;rintro e w1 ⟨rfl,rfl⟩) | (go_at_call 73;refine (r_In2 _ _ _ _).mono ?_;rintro e w1 ⟨rfl,rfl⟩))
 all_goals
  go_ret
  exact ⟨by simp_all [Rcp.okB,errI],by first | assumption | exact bel_⟩
theorem p_CheckReturn (r:Rtn) (A:Option Addr) (n c:Nat) (w:World) (hn:n≤9223372036854775807) (hd:Is w w.heap.size A n r.lv) :
 Calls Tryz.prog 14 #[.agg #[.int .i64 r.src,.int .i64 r.rcp,.int .i64 r.per,.slice A n c,.int .i64 r.lo,.int .i64 r.hi,.int .i64 r.kn,.int .i64 r.un]] w fun e w'=>e=.returned (.int .i64 (errI r.okB 22))∧Below w.heap.size w w':=by
 have HD:=hd_ hd
 clear hd
 go_enter Tryz.func14,Tryz.ntmps14
 go_wp2_with (first | (go_at_call 74;refine (p_isSource _ _).mono ?_;rintro e w1 ⟨rfl,rfl⟩) | (go_at_call 75;refine (p_isPerson _ _).mono ?_;rintro e w1 ⟨rfl,rfl⟩) | (go_at_call 76;refine (p_areLeaves r.lv A n c _ hn (HD.out.now (by exact bel_))).mono ?_;rintro e w1 ⟨rfl,hb1⟩;obtain ⟨hc1,hf1⟩:=bcell hb1;have hz1:w.heap.size<w1.heap.size:=(by have h:=hb1.size;(try simp only [World.size_alloc,World.size_setCell] at h);omega);have HB1:Below w.heap.size w w1:=bt_ (by exact bel_) hb1) | (go_at_call 83;refine (p_areDays _ _ _).mono ?_;rintro e w1c ⟨rfl,hb1c⟩;obtain ⟨hc1c,hf1c⟩:=bcell hb1c;have HB1c:Below w.heap.size w w1c:=bt_ (by exact bel_) hb1c;have hs1c:=HB1c.size) | (go_at_call 78;refine (p_areTimes _ _ _).mono ?_;rintro e w1 ⟨rfl,rfl⟩) | (go_at_call 72;refine (p_within _ _ _ _).mono ?_;rintro e w1 ⟨rfl,rfl⟩) | (go_at_call 70;refine (p_verdict _ _ _).mono ?_;rintro e w1 ⟨rfl,rfl⟩))
 all_goals
  go_ret
  exact ⟨by simp_all [Rtn.okB],by first | assumption | exact bel_⟩
theorem r_CheckReturn (r:Rtn) (A:Option Addr) (n c:Nat) (w:World) (hn:n≤9223372036854775807) (hd:Is w w.heap.size A n r.lv) :
 Calls Tryz.prog 15 #[.agg #[.int .i64 r.src,.int .i64 r.rcp,.int .i64 r.per,.slice A n c,.int .i64 r.lo,.int .i64 r.hi,.int .i64 r.kn,.int .i64 r.un]] w fun e w'=>e=.returned (.int .i64 (errI r.okB 22))∧Below w.heap.size w w':=by
 have HD:=hd_ hd
 clear hd
 go_enter Tryz.func15,Tryz.ntmps15
 go_wp2_with (first | (go_at_call 79;refine (r_isSource2 _ _).mono ?_;rintro e w1 ⟨rfl,rfl⟩) | (go_at_call 80;refine (r_areLeaves2 r.lv A n c _ hn (HD.out.now (by exact bel_))).mono ?_;rintro e w1 ⟨rfl,hb1⟩;obtain ⟨hc1,hf1⟩:=bcell hb1;have hz1:w.heap.size<w1.heap.size:=(by have h:=hb1.size;(try simp only [World.size_alloc,World.size_setCell] at h);omega);have HB1:Below w.heap.size w w1:=bt_ (by exact bel_) hb1) | (go_at_call 82;refine (r_areTimes2 _ _ _).mono ?_;rintro e w1 ⟨rfl,rfl⟩) | (go_at_call 73;refine (r_In2 _ _ _ _).mono ?_;rintro e w1 ⟨rfl,rfl⟩))
 all_goals
  go_ret
  refine ⟨?_,by first | assumption | exact bel_⟩
  simp_all [Rtn.okB,errI,rangeB]
  try omega
end Go.Proofs.YtoiompoapikkbaaGreat
