/- Layer 2 of the texts that LoanMoves takes: Mamq. -/
import Derived.Test.YtmcmbicapdcfmaaGreatMaeq
set_option linter.unusedVariables false
set_option linter.unusedSimpArgs false
set_option maxHeartbeats 16000000
namespace Go.Proofs.YtmcmbicapdcfmaaGreat
open Go.RowKit
theorem p_CheckReceipt (r:Rcp) (A:Option Addr) (n c:Nat) (w:World) (hn:n≤9223372036854775807) (hd:Is w w.heap.size A n r.lv) :
 Calls Tryz.prog 49 #[.agg #[.int .i64 r.src,.int .i64 r.bor,.int .i64 r.pap,.slice A n c,.int .i64 r.day,.int .i64 r.kn,.int .i64 r.un]] w fun e w'=>e=.returned (.int .i64 (errI r.okB 21))∧Below w.heap.size w w':=by
 have HD:=hd_ hd
 clear hd
 go_enter Tryz.func49,Tryz.ntmps49
 go_wp2_with (first | (go_at_call 107;refine (p_isSource _ _).mono ?_;rintro e w1 ⟨rfl,rfl⟩) | (go_at_call 108;refine (p_isPerson _ _).mono ?_;rintro e w1 ⟨rfl,rfl⟩) | (go_at_call 105;refine (p_isPaper _ _).mono ?_;rintro e w1 ⟨rfl,rfl⟩) | (go_at_call 109;refine (p_areLeaves r.lv A n c _ hn (HD.out.now (by exact bel_))).mono ?_;rintro e w1 ⟨rfl,hb1⟩;obtain ⟨hc1,hf1⟩:=bcell hb1;have HB1:Below w.heap.size w w1:=bt_ (by exact bel_) hb1;have hs1:=HB1.size) | (go_at_call 110;refine (p_isDay _ _).mono ?_;rintro e w1 ⟨rfl,rfl⟩) | (go_at_call 111;refine (p_areTimes _ _ _).mono ?_;rintro e w1 ⟨rfl,rfl⟩) | (go_at_call 106;refine (p_within _ _ _ _).mono ?_;rintro e w1 ⟨rfl,rfl⟩) | (go_at_call 61;refine (p_verdict _ _ _).mono ?_;rintro e w1 ⟨rfl,rfl⟩))
 all_goals
  go_ret
  exact ⟨by simp_all [Rcp.okB],by first | assumption | exact bel_⟩
theorem p_CheckReturn (r:Rtn) (A:Option Addr) (n c:Nat) (w:World) (hn:n≤9223372036854775807) (hd:Is w w.heap.size A n r.lv) :
 Calls Tryz.prog 52 #[.agg #[.int .i64 r.src,.int .i64 r.rcp,.int .i64 r.per,.slice A n c,.int .i64 r.lo,.int .i64 r.hi,.int .i64 r.kn,.int .i64 r.un]] w fun e w'=>e=.returned (.int .i64 (errI r.okB 22))∧Below w.heap.size w w':=by
 have HD:=hd_ hd
 clear hd
 go_enter Tryz.func52,Tryz.ntmps52
 go_wp2_with (first | (go_at_call 107;refine (p_isSource _ _).mono ?_;rintro e w1 ⟨rfl,rfl⟩) | (go_at_call 108;refine (p_isPerson _ _).mono ?_;rintro e w1 ⟨rfl,rfl⟩) | (go_at_call 109;refine (p_areLeaves r.lv A n c _ hn (HD.out.now (by exact bel_))).mono ?_;rintro e w1 ⟨rfl,hb1⟩;obtain ⟨hc1,hf1⟩:=bcell hb1;have hz1:w.heap.size<w1.heap.size:=(by have h:=hb1.size;(try simp only [World.size_alloc,World.size_setCell] at h);omega);have HB1:Below w.heap.size w w1:=bt_ (by exact bel_) hb1) | (go_at_call 112;refine (p_areDays _ _ _).mono ?_;rintro e w1c ⟨rfl,hb1c⟩;obtain ⟨hc1c,hf1c⟩:=bcell hb1c;have HB1c:Below w.heap.size w w1c:=bt_ (by exact bel_) hb1c;have hs1c:=HB1c.size) | (go_at_call 111;refine (p_areTimes _ _ _).mono ?_;rintro e w1 ⟨rfl,rfl⟩) | (go_at_call 106;refine (p_within _ _ _ _).mono ?_;rintro e w1 ⟨rfl,rfl⟩) | (go_at_call 61;refine (p_verdict _ _ _).mono ?_;rintro e w1 ⟨rfl,rfl⟩))
 all_goals
  go_ret
  exact ⟨by simp_all [Rtn.okB],by first | assumption | exact bel_⟩
end Go.Proofs.YtmcmbicapdcfmaaGreat
