/- Layer 2 of the texts that LoanBack takes: Bbtq. -/
import Derived.Test.YtmcmbicapdcfmaaGreatBbmq
import Derived.Test.YtmcmbicapdcfmaaGreatBbsq
set_option linter.unusedVariables false
set_option linter.unusedSimpArgs false
set_option maxHeartbeats 16000000
namespace Go.Proofs.YtmcmbicapdcfmaaGreat
open Go.RowKit Go.Maps
theorem rd_box {W:World} {B n s:Nat} {t:TypeId} {cs:Array Value} (h:BoxA W B t cs) (hs:cs.size=n*s):Rd W W.heap.size s (some ⟨B,0,none⟩) n cs.toList :=
 ⟨by simpa using hs,fun _=>⟨B,0,rfl,h.lt,fun j u hu=>by rw [Nat.zero_add,h.cell];simpa using hu⟩⟩
set_option maxRecDepth 100000 in
theorem r_ledger (w:World) :
 Calls Tryz.prog 75 #[] w fun e w'=>∃ y:Lsl,e=.returned (.agg #[.slice y.pA y.pn y.pc,.slice y.rA y.rn y.rc,.slice y.tA y.tn y.tc,.slice y.sA y.sn y.sc])∧Below w.heap.size w w'∧y.fit∧LedIn w' w'.heap.size y exL2:=by
 obtain ⟨W9,hW9⟩:∃ W,W=(World.alloc (World.alloc (World.alloc (World.alloc (World.alloc (World.alloc (World.alloc (World.alloc (World.alloc w (.cells #[.slice (some ⟨w.heap.size+1,0,none⟩) 2 2,.slice (some ⟨w.heap.size+1+1+1+1,0,none⟩) 2 2,.slice (some ⟨w.heap.size+1+1+1+1+1+1+1,0,none⟩) 2 2,.slice (some ⟨w.heap.size+1+1+1+1+1+1+1+1,0,none⟩) 2 2] 32)) (.cells #[.int .i64 1,.int .i64 3,.int .i64 2,.int .i64 1] 38)) (.cells #[.int .i64 1,.int .i64 2,.int .i64 3] 3)) (.cells #[.int .i64 2] 3)) (.cells #[.int .i64 10,.int .i64 5,.int .i64 1,.slice (some ⟨w.heap.size+1+1,0,none⟩) 3 3,.int .i64 10,.int .i64 10,.int .i64 0,.int .i64 11,.int .i64 6,.int .i64 1,.slice (some ⟨w.heap.size+1+1+1,0,none⟩) 1 1,.int .i64 40,.int .i64 40,.int .i64 0] 79)) (.cells #[.int .i64 1,.int .i64 2] 3)) (.cells #[.int .i64 3] 3)) (.cells #[.int .i64 20,.int .i64 10,.int .i64 7,.slice (some ⟨w.heap.size+1+1+1+1+1,0,none⟩) 2 2,.int .i64 20,.int .i64 50,.int .i64 60,.int .i64 0,.int .i64 21,.int .i64 10,.int .i64 5,.slice (some ⟨w.heap.size+1+1+1+1+1+1,0,none⟩) 1 1,.int .i64 5,.int .i64 30,.int .i64 60,.int .i64 0] 75)) (.cells #[.int .i64 30,.int .i64 5,.int .i64 1,.int .i64 1,.int .i64 25,.int .i64 70,.int .i64 0,.int .i64 31,.int .i64 0,.int .i64 1,.int .i64 2,.int .i64 22,.int .i64 80,.int .i64 0] 70)):=⟨_,rfl⟩
 have b0:BoxA W9 (w.heap.size) 32 #[.slice (some ⟨w.heap.size+1,0,none⟩) 2 2,.slice (some ⟨w.heap.size+1+1+1+1,0,none⟩) 2 2,.slice (some ⟨w.heap.size+1+1+1+1+1+1+1,0,none⟩) 2 2,.slice (some ⟨w.heap.size+1+1+1+1+1+1+1+1,0,none⟩) 2 2]:=by
  have h:=((((((((BoxA.new w 32 #[.slice (some ⟨w.heap.size+1,0,none⟩) 2 2,.slice (some ⟨w.heap.size+1+1+1+1,0,none⟩) 2 2,.slice (some ⟨w.heap.size+1+1+1+1+1+1+1,0,none⟩) 2 2,.slice (some ⟨w.heap.size+1+1+1+1+1+1+1+1,0,none⟩) 2 2]).alloc (.cells #[.int .i64 1,.int .i64 3,.int .i64 2,.int .i64 1] 38)).alloc (.cells #[.int .i64 1,.int .i64 2,.int .i64 3] 3)).alloc (.cells #[.int .i64 2] 3)).alloc (.cells #[.int .i64 10,.int .i64 5,.int .i64 1,.slice (some ⟨w.heap.size+1+1,0,none⟩) 3 3,.int .i64 10,.int .i64 10,.int .i64 0,.int .i64 11,.int .i64 6,.int .i64 1,.slice (some ⟨w.heap.size+1+1+1,0,none⟩) 1 1,.int .i64 40,.int .i64 40,.int .i64 0] 79)).alloc (.cells #[.int .i64 1,.int .i64 2] 3)).alloc (.cells #[.int .i64 3] 3)).alloc (.cells #[.int .i64 20,.int .i64 10,.int .i64 7,.slice (some ⟨w.heap.size+1+1+1+1+1,0,none⟩) 2 2,.int .i64 20,.int .i64 50,.int .i64 60,.int .i64 0,.int .i64 21,.int .i64 10,.int .i64 5,.slice (some ⟨w.heap.size+1+1+1+1+1+1,0,none⟩) 1 1,.int .i64 5,.int .i64 30,.int .i64 60,.int .i64 0] 75)).alloc (.cells #[.int .i64 30,.int .i64 5,.int .i64 1,.int .i64 1,.int .i64 25,.int .i64 70,.int .i64 0,.int .i64 31,.int .i64 0,.int .i64 1,.int .i64 2,.int .i64 22,.int .i64 80,.int .i64 0] 70)
  (try simp only [World.size_alloc] at h)
  rw [hW9]
  exact h
 have b1:BoxA W9 (w.heap.size+1) 38 #[.int .i64 1,.int .i64 3,.int .i64 2,.int .i64 1]:=by
  have h:=(((((((BoxA.new (World.alloc w (.cells #[.slice (some ⟨w.heap.size+1,0,none⟩) 2 2,.slice (some ⟨w.heap.size+1+1+1+1,0,none⟩) 2 2,.slice (some ⟨w.heap.size+1+1+1+1+1+1+1,0,none⟩) 2 2,.slice (some ⟨w.heap.size+1+1+1+1+1+1+1+1,0,none⟩) 2 2] 32)) 38 #[.int .i64 1,.int .i64 3,.int .i64 2,.int .i64 1]).alloc (.cells #[.int .i64 1,.int .i64 2,.int .i64 3] 3)).alloc (.cells #[.int .i64 2] 3)).alloc (.cells #[.int .i64 10,.int .i64 5,.int .i64 1,.slice (some ⟨w.heap.size+1+1,0,none⟩) 3 3,.int .i64 10,.int .i64 10,.int .i64 0,.int .i64 11,.int .i64 6,.int .i64 1,.slice (some ⟨w.heap.size+1+1+1,0,none⟩) 1 1,.int .i64 40,.int .i64 40,.int .i64 0] 79)).alloc (.cells #[.int .i64 1,.int .i64 2] 3)).alloc (.cells #[.int .i64 3] 3)).alloc (.cells #[.int .i64 20,.int .i64 10,.int .i64 7,.slice (some ⟨w.heap.size+1+1+1+1+1,0,none⟩) 2 2,.int .i64 20,.int .i64 50,.int .i64 60,.int .i64 0,.int .i64 21,.int .i64 10,.int .i64 5,.slice (some ⟨w.heap.size+1+1+1+1+1+1,0,none⟩) 1 1,.int .i64 5,.int .i64 30,.int .i64 60,.int .i64 0] 75)).alloc (.cells #[.int .i64 30,.int .i64 5,.int .i64 1,.int .i64 1,.int .i64 25,.int .i64 70,.int .i64 0,.int .i64 31,.int .i64 0,.int .i64 1,.int .i64 2,.int .i64 22,.int .i64 80,.int .i64 0] 70)
  (try simp only [World.size_alloc] at h)
  rw [hW9]
  exact h
 have b2:BoxA W9 (w.heap.size+1+1) 3 #[.int .i64 1,.int .i64 2,.int .i64 3]:=by
  have h:=((((((BoxA.new (World.alloc (World.alloc w (.cells #[.slice (some ⟨w.heap.size+1,0,none⟩) 2 2,.slice (some ⟨w.heap.size+1+1+1+1,0,none⟩) 2 2,.slice (some ⟨w.heap.size+1+1+1+1+1+1+1,0,none⟩) 2 2,.slice (some ⟨w.heap.size+1+1+1+1+1+1+1+1,0,none⟩) 2 2] 32)) (.cells #[.int .i64 1,.int .i64 3,.int .i64 2,.int .i64 1] 38)) 3 #[.int .i64 1,.int .i64 2,.int .i64 3]).alloc (.cells #[.int .i64 2] 3)).alloc (.cells #[.int .i64 10,.int .i64 5,.int .i64 1,.slice (some ⟨w.heap.size+1+1,0,none⟩) 3 3,.int .i64 10,.int .i64 10,.int .i64 0,.int .i64 11,.int .i64 6,.int .i64 1,.slice (some ⟨w.heap.size+1+1+1,0,none⟩) 1 1,.int .i64 40,.int .i64 40,.int .i64 0] 79)).alloc (.cells #[.int .i64 1,.int .i64 2] 3)).alloc (.cells #[.int .i64 3] 3)).alloc (.cells #[.int .i64 20,.int .i64 10,.int .i64 7,.slice (some ⟨w.heap.size+1+1+1+1+1,0,none⟩) 2 2,.int .i64 20,.int .i64 50,.int .i64 60,.int .i64 0,.int .i64 21,.int .i64 10,.int .i64 5,.slice (some ⟨w.heap.size+1+1+1+1+1+1,0,none⟩) 1 1,.int .i64 5,.int .i64 30,.int .i64 60,.int .i64 0] 75)).alloc (.cells #[.int .i64 30,.int .i64 5,.int .i64 1,.int .i64 1,.int .i64 25,.int .i64 70,.int .i64 0,.int .i64 31,.int .i64 0,.int .i64 1,.int .i64 2,.int .i64 22,.int .i64 80,.int .i64 0] 70)
  (try simp only [World.size_alloc] at h)
  rw [hW9]
  exact h
 have b3:BoxA W9 (w.heap.size+1+1+1) 3 #[.int .i64 2]:=by
  have h:=(((((BoxA.new (World.alloc (World.alloc (World.alloc w (.cells #[.slice (some ⟨w.heap.size+1,0,none⟩) 2 2,.slice (some ⟨w.heap.size+1+1+1+1,0,none⟩) 2 2,.slice (some ⟨w.heap.size+1+1+1+1+1+1+1,0,none⟩) 2 2,.slice (some ⟨w.heap.size+1+1+1+1+1+1+1+1,0,none⟩) 2 2] 32)) (.cells #[.int .i64 1,.int .i64 3,.int .i64 2,.int .i64 1] 38)) (.cells #[.int .i64 1,.int .i64 2,.int .i64 3] 3)) 3 #[.int .i64 2]).alloc (.cells #[.int .i64 10,.int .i64 5,.int .i64 1,.slice (some ⟨w.heap.size+1+1,0,none⟩) 3 3,.int .i64 10,.int .i64 10,.int .i64 0,.int .i64 11,.int .i64 6,.int .i64 1,.slice (some ⟨w.heap.size+1+1+1,0,none⟩) 1 1,.int .i64 40,.int .i64 40,.int .i64 0] 79)).alloc (.cells #[.int .i64 1,.int .i64 2] 3)).alloc (.cells #[.int .i64 3] 3)).alloc (.cells #[.int .i64 20,.int .i64 10,.int .i64 7,.slice (some ⟨w.heap.size+1+1+1+1+1,0,none⟩) 2 2,.int .i64 20,.int .i64 50,.int .i64 60,.int .i64 0,.int .i64 21,.int .i64 10,.int .i64 5,.slice (some ⟨w.heap.size+1+1+1+1+1+1,0,none⟩) 1 1,.int .i64 5,.int .i64 30,.int .i64 60,.int .i64 0] 75)).alloc (.cells #[.int .i64 30,.int .i64 5,.int .i64 1,.int .i64 1,.int .i64 25,.int .i64 70,.int .i64 0,.int .i64 31,.int .i64 0,.int .i64 1,.int .i64 2,.int .i64 22,.int .i64 80,.int .i64 0] 70)
  (try simp only [World.size_alloc] at h)
  rw [hW9]
  exact h
 have b4:BoxA W9 (w.heap.size+1+1+1+1) 79 #[.int .i64 10,.int .i64 5,.int .i64 1,.slice (some ⟨w.heap.size+1+1,0,none⟩) 3 3,.int .i64 10,.int .i64 10,.int .i64 0,.int .i64 11,.int .i64 6,.int .i64 1,.slice (some ⟨w.heap.size+1+1+1,0,none⟩) 1 1,.int .i64 40,.int .i64 40,.int .i64 0]:=by
  have h:=((((BoxA.new (World.alloc (World.alloc (World.alloc (World.alloc w (.cells #[.slice (some ⟨w.heap.size+1,0,none⟩) 2 2,.slice (some ⟨w.heap.size+1+1+1+1,0,none⟩) 2 2,.slice (some ⟨w.heap.size+1+1+1+1+1+1+1,0,none⟩) 2 2,.slice (some ⟨w.heap.size+1+1+1+1+1+1+1+1,0,none⟩) 2 2] 32)) (.cells #[.int .i64 1,.int .i64 3,.int .i64 2,.int .i64 1] 38)) (.cells #[.int .i64 1,.int .i64 2,.int .i64 3] 3)) (.cells #[.int .i64 2] 3)) 79 #[.int .i64 10,.int .i64 5,.int .i64 1,.slice (some ⟨w.heap.size+1+1,0,none⟩) 3 3,.int .i64 10,.int .i64 10,.int .i64 0,.int .i64 11,.int .i64 6,.int .i64 1,.slice (some ⟨w.heap.size+1+1+1,0,none⟩) 1 1,.int .i64 40,.int .i64 40,.int .i64 0]).alloc (.cells #[.int .i64 1,.int .i64 2] 3)).alloc (.cells #[.int .i64 3] 3)).alloc (.cells #[.int .i64 20,.int .i64 10,.int .i64 7,.slice (some ⟨w.heap.size+1+1+1+1+1,0,none⟩) 2 2,.int .i64 20,.int .i64 50,.int .i64 60,.int .i64 0,.int .i64 21,.int .i64 10,.int .i64 5,.slice (some ⟨w.heap.size+1+1+1+1+1+1,0,none⟩) 1 1,.int .i64 5,.int .i64 30,.int .i64 60,.int .i64 0] 75)).alloc (.cells #[.int .i64 30,.int .i64 5,.int .i64 1,.int .i64 1,.int .i64 25,.int .i64 70,.int .i64 0,.int .i64 31,.int .i64 0,.int .i64 1,.int .i64 2,.int .i64 22,.int .i64 80,.int .i64 0] 70)
  (try simp only [World.size_alloc] at h)
  rw [hW9]
  exact h
 have b5:BoxA W9 (w.heap.size+1+1+1+1+1) 3 #[.int .i64 1,.int .i64 2]:=by
  have h:=(((BoxA.new (World.alloc (World.alloc (World.alloc (World.alloc (World.alloc w (.cells #[.slice (some ⟨w.heap.size+1,0,none⟩) 2 2,.slice (some ⟨w.heap.size+1+1+1+1,0,none⟩) 2 2,.slice (some ⟨w.heap.size+1+1+1+1+1+1+1,0,none⟩) 2 2,.slice (some ⟨w.heap.size+1+1+1+1+1+1+1+1,0,none⟩) 2 2] 32)) (.cells #[.int .i64 1,.int .i64 3,.int .i64 2,.int .i64 1] 38)) (.cells #[.int .i64 1,.int .i64 2,.int .i64 3] 3)) (.cells #[.int .i64 2] 3)) (.cells #[.int .i64 10,.int .i64 5,.int .i64 1,.slice (some ⟨w.heap.size+1+1,0,none⟩) 3 3,.int .i64 10,.int .i64 10,.int .i64 0,.int .i64 11,.int .i64 6,.int .i64 1,.slice (some ⟨w.heap.size+1+1+1,0,none⟩) 1 1,.int .i64 40,.int .i64 40,.int .i64 0] 79)) 3 #[.int .i64 1,.int .i64 2]).alloc (.cells #[.int .i64 3] 3)).alloc (.cells #[.int .i64 20,.int .i64 10,.int .i64 7,.slice (some ⟨w.heap.size+1+1+1+1+1,0,none⟩) 2 2,.int .i64 20,.int .i64 50,.int .i64 60,.int .i64 0,.int .i64 21,.int .i64 10,.int .i64 5,.slice (some ⟨w.heap.size+1+1+1+1+1+1,0,none⟩) 1 1,.int .i64 5,.int .i64 30,.int .i64 60,.int .i64 0] 75)).alloc (.cells #[.int .i64 30,.int .i64 5,.int .i64 1,.int .i64 1,.int .i64 25,.int .i64 70,.int .i64 0,.int .i64 31,.int .i64 0,.int .i64 1,.int .i64 2,.int .i64 22,.int .i64 80,.int .i64 0] 70)
  (try simp only [World.size_alloc] at h)
  rw [hW9]
  exact h
 have b6:BoxA W9 (w.heap.size+1+1+1+1+1+1) 3 #[.int .i64 3]:=by
  have h:=((BoxA.new (World.alloc (World.alloc (World.alloc (World.alloc (World.alloc (World.alloc w (.cells #[.slice (some ⟨w.heap.size+1,0,none⟩) 2 2,.slice (some ⟨w.heap.size+1+1+1+1,0,none⟩) 2 2,.slice (some ⟨w.heap.size+1+1+1+1+1+1+1,0,none⟩) 2 2,.slice (some ⟨w.heap.size+1+1+1+1+1+1+1+1,0,none⟩) 2 2] 32)) (.cells #[.int .i64 1,.int .i64 3,.int .i64 2,.int .i64 1] 38)) (.cells #[.int .i64 1,.int .i64 2,.int .i64 3] 3)) (.cells #[.int .i64 2] 3)) (.cells #[.int .i64 10,.int .i64 5,.int .i64 1,.slice (some ⟨w.heap.size+1+1,0,none⟩) 3 3,.int .i64 10,.int .i64 10,.int .i64 0,.int .i64 11,.int .i64 6,.int .i64 1,.slice (some ⟨w.heap.size+1+1+1,0,none⟩) 1 1,.int .i64 40,.int .i64 40,.int .i64 0] 79)) (.cells #[.int .i64 1,.int .i64 2] 3)) 3 #[.int .i64 3]).alloc (.cells #[.int .i64 20,.int .i64 10,.int .i64 7,.slice (some ⟨w.heap.size+1+1+1+1+1,0,none⟩) 2 2,.int .i64 20,.int .i64 50,.int .i64 60,.int .i64 0,.int .i64 21,.int .i64 10,.int .i64 5,.slice (some ⟨w.heap.size+1+1+1+1+1+1,0,none⟩) 1 1,.int .i64 5,.int .i64 30,.int .i64 60,.int .i64 0] 75)).alloc (.cells #[.int .i64 30,.int .i64 5,.int .i64 1,.int .i64 1,.int .i64 25,.int .i64 70,.int .i64 0,.int .i64 31,.int .i64 0,.int .i64 1,.int .i64 2,.int .i64 22,.int .i64 80,.int .i64 0] 70)
  (try simp only [World.size_alloc] at h)
  rw [hW9]
  exact h
 have b7:BoxA W9 (w.heap.size+1+1+1+1+1+1+1) 75 #[.int .i64 20,.int .i64 10,.int .i64 7,.slice (some ⟨w.heap.size+1+1+1+1+1,0,none⟩) 2 2,.int .i64 20,.int .i64 50,.int .i64 60,.int .i64 0,.int .i64 21,.int .i64 10,.int .i64 5,.slice (some ⟨w.heap.size+1+1+1+1+1+1,0,none⟩) 1 1,.int .i64 5,.int .i64 30,.int .i64 60,.int .i64 0]:=by
  have h:=(BoxA.new (World.alloc (World.alloc (World.alloc (World.alloc (World.alloc (World.alloc (World.alloc w (.cells #[.slice (some ⟨w.heap.size+1,0,none⟩) 2 2,.slice (some ⟨w.heap.size+1+1+1+1,0,none⟩) 2 2,.slice (some ⟨w.heap.size+1+1+1+1+1+1+1,0,none⟩) 2 2,.slice (some ⟨w.heap.size+1+1+1+1+1+1+1+1,0,none⟩) 2 2] 32)) (.cells #[.int .i64 1,.int .i64 3,.int .i64 2,.int .i64 1] 38)) (.cells #[.int .i64 1,.int .i64 2,.int .i64 3] 3)) (.cells #[.int .i64 2] 3)) (.cells #[.int .i64 10,.int .i64 5,.int .i64 1,.slice (some ⟨w.heap.size+1+1,0,none⟩) 3 3,.int .i64 10,.int .i64 10,.int .i64 0,.int .i64 11,.int .i64 6,.int .i64 1,.slice (some ⟨w.heap.size+1+1+1,0,none⟩) 1 1,.int .i64 40,.int .i64 40,.int .i64 0] 79)) (.cells #[.int .i64 1,.int .i64 2] 3)) (.cells #[.int .i64 3] 3)) 75 #[.int .i64 20,.int .i64 10,.int .i64 7,.slice (some ⟨w.heap.size+1+1+1+1+1,0,none⟩) 2 2,.int .i64 20,.int .i64 50,.int .i64 60,.int .i64 0,.int .i64 21,.int .i64 10,.int .i64 5,.slice (some ⟨w.heap.size+1+1+1+1+1+1,0,none⟩) 1 1,.int .i64 5,.int .i64 30,.int .i64 60,.int .i64 0]).alloc (.cells #[.int .i64 30,.int .i64 5,.int .i64 1,.int .i64 1,.int .i64 25,.int .i64 70,.int .i64 0,.int .i64 31,.int .i64 0,.int .i64 1,.int .i64 2,.int .i64 22,.int .i64 80,.int .i64 0] 70)
  (try simp only [World.size_alloc] at h)
  rw [hW9]
  exact h
 have b8:BoxA W9 (w.heap.size+1+1+1+1+1+1+1+1) 70 #[.int .i64 30,.int .i64 5,.int .i64 1,.int .i64 1,.int .i64 25,.int .i64 70,.int .i64 0,.int .i64 31,.int .i64 0,.int .i64 1,.int .i64 2,.int .i64 22,.int .i64 80,.int .i64 0]:=by
  have h:=BoxA.new (World.alloc (World.alloc (World.alloc (World.alloc (World.alloc (World.alloc (World.alloc (World.alloc w (.cells #[.slice (some ⟨w.heap.size+1,0,none⟩) 2 2,.slice (some ⟨w.heap.size+1+1+1+1,0,none⟩) 2 2,.slice (some ⟨w.heap.size+1+1+1+1+1+1+1,0,none⟩) 2 2,.slice (some ⟨w.heap.size+1+1+1+1+1+1+1+1,0,none⟩) 2 2] 32)) (.cells #[.int .i64 1,.int .i64 3,.int .i64 2,.int .i64 1] 38)) (.cells #[.int .i64 1,.int .i64 2,.int .i64 3] 3)) (.cells #[.int .i64 2] 3)) (.cells #[.int .i64 10,.int .i64 5,.int .i64 1,.slice (some ⟨w.heap.size+1+1,0,none⟩) 3 3,.int .i64 10,.int .i64 10,.int .i64 0,.int .i64 11,.int .i64 6,.int .i64 1,.slice (some ⟨w.heap.size+1+1+1,0,none⟩) 1 1,.int .i64 40,.int .i64 40,.int .i64 0] 79)) (.cells #[.int .i64 1,.int .i64 2] 3)) (.cells #[.int .i64 3] 3)) (.cells #[.int .i64 20,.int .i64 10,.int .i64 7,.slice (some ⟨w.heap.size+1+1+1+1+1,0,none⟩) 2 2,.int .i64 20,.int .i64 50,.int .i64 60,.int .i64 0,.int .i64 21,.int .i64 10,.int .i64 5,.slice (some ⟨w.heap.size+1+1+1+1+1+1,0,none⟩) 1 1,.int .i64 5,.int .i64 30,.int .i64 60,.int .i64 0] 75)) 70 #[.int .i64 30,.int .i64 5,.int .i64 1,.int .i64 1,.int .i64 25,.int .i64 70,.int .i64 0,.int .i64 31,.int .i64 0,.int .i64 1,.int .i64 2,.int .i64 22,.int .i64 80,.int .i64 0]
  (try simp only [World.size_alloc] at h)
  rw [hW9]
  exact h
 have hB:Below w.heap.size w W9:=by rw [hW9];exact bel_
 have hml:(3:Nat)≤maxLen:=by decide
 have i2:Is W9 W9.heap.size (some ⟨w.heap.size+1+1,0,none⟩) 3 [1,2,3]:=rd_box b2 rfl
 have i3:Is W9 W9.heap.size (some ⟨w.heap.size+1+1+1,0,none⟩) 1 [2]:=rd_box b3 rfl
 have i5:Is W9 W9.heap.size (some ⟨w.heap.size+1+1+1+1+1,0,none⟩) 2 [1,2]:=rd_box b5 rfl
 have i6:Is W9 W9.heap.size (some ⟨w.heap.size+1+1+1+1+1+1,0,none⟩) 1 [3]:=rd_box b6 rfl
 have hl:LedIn W9 W9.heap.size ⟨some ⟨w.heap.size+1,0,none⟩,2,2,some ⟨w.heap.size+1+1+1+1,0,none⟩,2,2,some ⟨w.heap.size+1+1+1+1+1+1+1,0,none⟩,2,2,some ⟨w.heap.size+1+1+1+1+1+1+1+1,0,none⟩,2,2⟩ exL2:=by
  refine ⟨sq_pp (rd_box b1 rfl) rfl,?_,?_,sq_sg (rd_box b8 rfl) rfl⟩
  ·have h:=rcs_of (sq_rv (xs:=[⟨⟨10,5,1,[1,2,3],10,10,0⟩,some ⟨w.heap.size+1+1,0,none⟩,3,3⟩,⟨⟨11,6,1,[2],40,40,0⟩,some ⟨w.heap.size+1+1+1,0,none⟩,1,1⟩]) (rd_box b4 rfl) rfl (fun v hv=>by
    simp only [List.mem_cons,List.not_mem_nil,or_false] at hv
    rcases hv with rfl | rfl
    ·exact ⟨i2,lr_,hml⟩
    ·exact ⟨i3,lr_,by show 1≤maxLen;exact Nat.le_trans (by decide) hml⟩))
   exact h
  ·have h:=rts_of (xs:=[⟨⟨20,10,7,[1,2],20,50,60,0⟩,some ⟨w.heap.size+1+1+1+1+1,0,none⟩,2,2⟩,⟨⟨21,10,5,[3],5,30,60,0⟩,some ⟨w.heap.size+1+1+1+1+1+1,0,none⟩,1,1⟩]) (rd_box b7 rfl) rfl (fun v hv=>by
    simp only [List.mem_cons,List.not_mem_nil,or_false] at hv
    rcases hv with rfl | rfl
    ·exact ⟨i5,lr_,by show 2≤maxLen;exact Nat.le_trans (by decide) hml⟩
    ·exact ⟨i6,lr_,by show 1≤maxLen;exact Nat.le_trans (by decide) hml⟩)
   exact h
 have HL:=hd_ hl
 have HB:=hd_ hB
 have HW9:=hd_ hW9
 have k0:=b0.cell
 have z0:=b0.lt
 clear hl hB hW9 b0 b1 b2 b3 b4 b5 b6 b7 b8 i2 i3 i5 i6
 go_enter Tryz.func75,Tryz.ntmps75
 go_wp2
 refine bodyPost_w (W2:=W9) (by rw [HW9.out]) ?_
 refine bodyPost_ret (v:=.agg #[.slice (some ⟨w.heap.size+1,0,none⟩) 2 2,.slice (some ⟨w.heap.size+1+1+1+1,0,none⟩) 2 2,.slice (some ⟨w.heap.size+1+1+1+1+1+1+1,0,none⟩) 2 2,.slice (some ⟨w.heap.size+1+1+1+1+1+1+1+1,0,none⟩) 2 2]) ?_ rfl ?_
 ·(simp [results,Tryz.f75,go_sem];try go_simp)
 ·have h2:2≤2∧2≤maxLen:=⟨lr_,by omega⟩
  exact ⟨⟨some ⟨w.heap.size+1,0,none⟩,2,2,some ⟨w.heap.size+1+1+1+1,0,none⟩,2,2,some ⟨w.heap.size+1+1+1+1+1+1+1,0,none⟩,2,2,some ⟨w.heap.size+1+1+1+1+1+1+1+1,0,none⟩,2,2⟩,rfl,HB.out,⟨h2,h2,h2,h2⟩,HL.out⟩
end Go.Proofs.YtmcmbicapdcfmaaGreat
