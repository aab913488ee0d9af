/- Layer 2 of the texts that the statements over histories take: Pbsq. -/
import Derived.Test.YtmcmbicapdcfmaaGreatPbpq
import Derived.Test.YtmcmbicapdcfmaaGreatPbqq
set_option linter.unusedVariables false
set_option linter.unusedSimpArgs false
set_option maxHeartbeats 16000000
namespace Go.Proofs.YtmcmbicapdcfmaaGreat
open Go.RowKit Go.Maps
theorem rd_box {W:World} {B n s:Nat} {t:TypeId} {cs:Array Value} (h:BoxA W B t cs) (hs:cs.size=n*s):Rd W W.heap.size s (some ⟨B,0,none⟩) n cs.toList :=
 ⟨by simpa using hs,fun _=>⟨B,0,rfl,h.lt,fun j u hu=>by rw [Nat.zero_add,h.cell];simpa using hu⟩⟩
set_option maxRecDepth 100000 in
theorem r_ledger (w:World) :
 Calls Tryz.prog 75 #[] w fun e w'=>∃ y:Lsl,e=.returned (.agg #[.slice y.pA y.pn y.pc,.slice y.rA y.rn y.rc,.slice y.tA y.tn y.tc,.slice y.sA y.sn y.sc])∧Below w.heap.size w w'∧y.fit∧LedIn w' w'.heap.size y exL2:=by
 obtain ⟨W9,hW9⟩:∃ W,W=(World.alloc (World.alloc (World.alloc (World.alloc (World.alloc (World.alloc (World.alloc (World.alloc (World.alloc w (.cells #[.slice (some ⟨w.heap.size+1,0,none⟩) 2 2,.slice (some ⟨w.heap.size+1+1+1+1,0,none⟩) 2 2,.slice (some ⟨w.heap.size+1+1+1+1+1+1+1,0,none⟩) 2 2,.slice (some ⟨w.heap.size+1+1+1+1+1+1+1+1,0,none⟩) 2 2] 32)) (.cells #[.int .i64 1,.int .i64 3,.int .i64 2,.int .i64 1] 38)) (.cells #[.int .i64 1,.int .i64 2,.int .i64 3] 3)) (.cells #[.int .i64 2] 3)) (.cells #[.int .i64 10,.int .i64 5,.int .i64 1,.slice (some ⟨w.heap.size+1+1,0,none⟩) 3 3,.int .i64 10,.int .i64 10,.int .i64 0,.int .i64 11,.int .i64 6,.int .i64 1,.slice (some ⟨w.heap.size+1+1+1,0,none⟩) 1 1,.int .i64 40,.int .i64 40,.int .i64 0] 79)) (.cells #[.int .i64 1,.int .i64 2] 3)) (.cells #[.int .i64 3] 3)) (.cells #[.int .i64 20,.int .i64 10,.int .i64 7,.slice (some ⟨w.heap.size+1+1+1+1+1,0,none⟩) 2 2,.int .i64 20,.int .i64 50,.int .i64 60,.int .i64 0,.int .i64 21,.int .i64 10,.int .i64 5,.slice (some ⟨w.heap.size+1+1+1+1+1+1,0,none⟩) 1 1,.int .i64 5,.int .i64 30,.int .i64 60,.int .i64 0] 75)) (.cells #[.int .i64 30,.int .i64 5,.int .i64 1,.int .i64 1,.int .i64 25,.int .i64 70,.int .i64 0,.int .i64 31,.int .i64 0,.int .i64 1,.int .i64 2,.int .i64 22,.int .i64 80,.int .i64 0] 70)):=⟨_,rfl⟩
 have b0:BoxA W9 (w.heap.size) 32 #[.slice (some ⟨w.heap.size+1,0,none⟩) 2 2,.slice (some ⟨w.heap.size+1+1+1+1,0,none⟩) 2 2,.slice (some ⟨w.heap.size+1+1+1+1+1+1+1,0,none⟩) 2 2,.slice (some ⟨w.heap.size+1+1+1+1+1+1+1+1,0,none⟩) 2 2]:=by
  have h:=((((((((BoxA.new w 32 #[.slice (some ⟨w.heap.size+1,0,none⟩) 2 2,.slice (some ⟨w.heap.size+1+1+1+1,0,none⟩) 2 2,.slice (some ⟨w.heap.size+1+1+1+1+1+1+1,0,none⟩) 2 2,.slice (some ⟨w.heap.size+1+1+1+1+1+1+1+1,0,none⟩) 2 2]).alloc (.cells #[.int .i64 1,.int .i64 3,.int .i64 2,.int .i64 1] 38)).alloc (.cells #[.int .i64 1,.int .i64 2,.int .i64 3] 3)).alloc (.cells #[.int .i64 2] 3)).alloc (.cells #[.int .i64 10,.int .i64 5,.int .i64 1,.slice (some ⟨w.heap.size+1+1,0,none⟩) 3 3,.int .i64 10,.int .i64 10,.int .i64 0,.int .i64 11,.int .i64 6,.int .i64 1,.slice (some ⟨w.heap.size+1+1+1,0,none⟩) 1 1,.int .i64 40,.int .i64 40,.int .i64 0] 79)).alloc (.cells #[.int .i64 1,.int .i64 2] 3)).alloc (.cells #[.int .i64 3] 3)).alloc (.cells #[.int .i64 20,.int .i64 10,.int .i64 7,.slice (some ⟨w.heap.size+1+1+1+1+1,0,none⟩) 2 2,.int .i64 20,.int .i64 50,.int .i64 60,.int .i64 0,.int .i64 21,.int .i64 10,.int .i64 5,.slice (some ⟨w.heap.size+1+1+1+1+1+1,0,none⟩) 1 1,.int .i64 5,.int .i64 30,.int .i64 60,.int .i64 0] 75)).alloc (.cells #[.int .i64 30,.int .i64 5,.int .i64 1,.int .i64 1,.int .i64 25,.int .i64 70,.int .i64 0,.int .i64 31,.int .i64 0,.int .i64 1,.int .i64 2,.int .i64 22,.int .i64 80,.int .i64 0] 70)
  (try simp only [World.size_alloc] at h)
  rw [hW9]
  exact h
 have b1:BoxA W9 (w.heap.size+1) 38 #[.int .i64 1,.int .i64 3,.int .i64 2,.int .i64 1]:=by
  have h:=(((((((BoxA.new (World.alloc w (.cells #[.slice (some ⟨w.heap.size+1,0,none⟩) 2 2,.slice (some ⟨w.heap.size+1+1+1+1,0,none⟩) 2 2,.slice (some ⟨w.heap.size+1+1+1+1+1+1+1,0,none⟩) 2 2,.slice (some ⟨w.heap.size+1+1+1+1+1+1+1+1,0,none⟩) 2 2] 32)) 38 #[.int .i64 1,.int .i64 3,.int .i64 2,.int .i64 1]).alloc (.cells #[.int .i64 1,.int .i64 2,.int .i64 3] 3)).alloc (.cells #[.int .i64 2] 3)).alloc (.cells #[.int .i64 10,.int .i64 5,.int .i64 1,.slice (some ⟨w.heap.size+1+1,0,none⟩) 3 3,.int .i64 10,.int .i64 10,.int .i64 0,.int .i64 11,.int .i64 6,.int .i64 1,.slice (some ⟨w.heap.size+1+1+1,0,none⟩) 1 1,.int .i64 40,.int .i64 40,.int .i64 0] 79)).alloc (.cells #[.int .i64 1,.int .i64 2] 3)).alloc (.cells #[.int .i64 3] 3)).alloc (.cells #[.int .i64 20,.int .i64 10,.int .i64 7,.slice (some ⟨w.heap.size+1+1+1+1+1,0,none⟩) 2 2,.int .i64 20,.int .i64 50,.int .i64 60,.int .i64 0,.int .i64 21,.int .i64 10,.int .i64 5,.slice (some ⟨w.heap.size+1+1+1+1+1+1,0,none⟩) 1 1,.int .i64 5,.int .i64 30,.int .i64 60,.int .i64 0] 75)).alloc (.cells #[.int .i64 30,.int .i64 5,.int .i64 1,.int .i64 1,.int .i64 25,.int .i64 70,.int .i64 0,.int .i64 31,.int .i64 0,.int .i64 1,.int .i64 2,.int .i64 22,.int .i64 80,.int .i64 0] 70)
  (try simp only [World.size_alloc] at h)
  rw [hW9]
  exact h
 have b2:BoxA W9 (w.heap.size+1+1) 3 #[.int .i64 1,.int .i64 2,.int .i64 3]:=by
  have h:=((((((BoxA.new (World.alloc (World.alloc w (.cells #[.slice (some ⟨w.heap.size+1,0,none⟩) 2 2,.slice (some ⟨w.heap.size+1+1+1+1,0,none⟩) 2 2,.slice (some ⟨w.heap.size+1+1+1+1+1+1+1,0,none⟩) 2 2,.slice (some ⟨w.heap.size+1+1+1+1+1+1+1+1,0,none⟩) 2 2] 32)) (.cells #[.int .i64 1,.int .i64 3,.int .i64 2,.int .i64 1] 38)) 3 #[.int .i64 1,.int .i64 2,.int .i64 3]).alloc (.cells #[.int .i64 2] 3)).alloc (.cells #[.int .i64 10,.int .i64 5,.int .i64 1,.slice (some ⟨w.heap.size+1+1,0,none⟩) 3 3,.int .i64 10,.int .i64 10,.int .i64 0,.int .i64 11,.int .i64 6,.int .i64 1,.slice (some ⟨w.heap.size+1+1+1,0,none⟩) 1 1,.int .i64 40,.int .i64 40,.int .i64 0] 79)).alloc (.cells #[.int .i64 1,.int .i64 2] 3)).alloc (.cells #[.int .i64 3] 3)).alloc (.cells #[.int .i64 20,.int .i64 10,.int .i64 7,.slice (some ⟨w.heap.size+1+1+1+1+1,0,none⟩) 2 2,.int .i64 20,.int .i64 50,.int .i64 60,.int .i64 0,.int .i64 21,.int .i64 10,.int .i64 5,.slice (some ⟨w.heap.size+1+1+1+1+1+1,0,none⟩) 1 1,.int .i64 5,.int .i64 30,.int .i64 60,.int .i64 0] 75)).alloc (.cells #[.int .i64 30,.int .i64 5,.int .i64 1,.int .i64 1,.int .i64 25,.int .i64 70,.int .i64 0,.int .i64 31,.int .i64 0,.int .i64 1,.int .i64 2,.int .i64 22,.int .i64 80,.int .i64 0] 70)
  (try simp only [World.size_alloc] at h)
  rw [hW9]
  exact h
 have b3:BoxA W9 (w.heap.size+1+1+1) 3 #[.int .i64 2]:=by
  have h:=(((((BoxA.new (World.alloc (World.alloc (World.alloc w (.cells #[.slice (some ⟨w.heap.size+1,0,none⟩) 2 2,.slice (some ⟨w.heap.size+1+1+1+1,0,none⟩) 2 2,.slice (some ⟨w.heap.size+1+1+1+1+1+1+1,0,none⟩) 2 2,.slice (some ⟨w.heap.size+1+1+1+1+1+1+1+1,0,none⟩) 2 2] 32)) (.cells #[.int .i64 1,.int .i64 3,.int .i64 2,.int .i64 1] 38)) (.cells #[.int .i64 1,.int .i64 2,.int .i64 3] 3)) 3 #[.int .i64 2]).alloc (.cells #[.int .i64 10,.int .i64 5,.int .i64 1,.slice (some ⟨w.heap.size+1+1,0,none⟩) 3 3,.int .i64 10,.int .i64 10,.int .i64 0,.int .i64 11,.int .i64 6,.int .i64 1,.slice (some ⟨w.heap.size+1+1+1,0,none⟩) 1 1,.int .i64 40,.int .i64 40,.int .i64 0] 79)).alloc (.cells #[.int .i64 1,.int .i64 2] 3)).alloc (.cells #[.int .i64 3] 3)).alloc (.cells #[.int .i64 20,.int .i64 10,.int .i64 7,.slice (some ⟨w.heap.size+1+1+1+1+1,0,none⟩) 2 2,.int .i64 20,.int .i64 50,.int .i64 60,.int .i64 0,.int .i64 21,.int .i64 10,.int .i64 5,.slice (some ⟨w.heap.size+1+1+1+1+1+1,0,none⟩) 1 1,.int .i64 5,.int .i64 30,.int .i64 60,.int .i64 0] 75)).alloc (.cells #[.int .i64 30,.int .i64 5,.int .i64 1,.int .i64 1,.int .i64 25,.int .i64 70,.int .i64 0,.int .i64 31,.int .i64 0,.int .i64 1,.int .i64 2,.int .i64 22,.int .i64 80,.int .i64 0] 70)
  (try simp only [World.size_alloc] at h)
  rw [hW9]
  exact h
 have b4:BoxA W9 (w.heap.size+1+1+1+1) 79 #[.int .i64 10,.int .i64 5,.int .i64 1,.slice (some ⟨w.heap.size+1+1,0,none⟩) 3 3,.int .i64 10,.int .i64 10,.int .i64 0,.int .i64 11,.int .i64 6,.int .i64 1,.slice (some ⟨w.heap.size+1+1+1,0,none⟩) 1 1,.int .i64 40,.int .i64 40,.int .i64 0]:=by
  have h:=((((BoxA.new (World.alloc (World.alloc (World.alloc (World.alloc w (.cells #[.slice (some ⟨w.heap.size+1,0,none⟩) 2 2,.slice (some ⟨w.heap.size+1+1+1+1,0,none⟩) 2 2,.slice (some ⟨w.heap.size+1+1+1+1+1+1+1,0,none⟩) 2 2,.slice (some ⟨w.heap.size+1+1+1+1+1+1+1+1,0,none⟩) 2 2] 32)) (.cells #[.int .i64 1,.int .i64 3,.int .i64 2,.int .i64 1] 38)) (.cells #[.int .i64 1,.int .i64 2,.int .i64 3] 3)) (.cells #[.int .i64 2] 3)) 79 #[.int .i64 10,.int .i64 5,.int .i64 1,.slice (some ⟨w.heap.size+1+1,0,none⟩) 3 3,.int .i64 10,.int .i64 10,.int .i64 0,.int .i64 11,.int .i64 6,.int .i64 1,.slice (some ⟨w.heap.size+1+1+1,0,none⟩) 1 1,.int .i64 40,.int .i64 40,.int .i64 0]).alloc (.cells #[.int .i64 1,.int .i64 2] 3)).alloc (.cells #[.int .i64 3] 3)).alloc (.cells #[.int .i64 20,.int .i64 10,.int .i64 7,.slice (some ⟨w.heap.size+1+1+1+1+1,0,none⟩) 2 2,.int .i64 20,.int .i64 50,.int .i64 60,.int .i64 0,.int .i64 21,.int .i64 10,.int .i64 5,.slice (some ⟨w.heap.size+1+1+1+1+1+1,0,none⟩) 1 1,.int .i64 5,.int .i64 30,.int .i64 60,.int .i64 0] 75)).alloc (.cells #[.int .i64 30,.int .i64 5,.int .i64 1,.int .i64 1,.int .i64 25,.int .i64 70,.int .i64 0,.int .i64 31,.int .i64 0,.int .i64 1,.int .i64 2,.int .i64 22,.int .i64 80,.int .i64 0] 70)
  (try simp only [World.size_alloc] at h)
  rw [hW9]
  exact h
 have b5:BoxA W9 (w.heap.size+1+1+1+1+1) 3 #[.int .i64 1,.int .i64 2]:=by
  have h:=(((BoxA.new (World.alloc (World.alloc (World.alloc (World.alloc (World.alloc w (.cells #[.slice (some ⟨w.heap.size+1,0,none⟩) 2 2,.slice (some ⟨w.heap.size+1+1+1+1,0,none⟩) 2 2,.slice (some ⟨w.heap.size+1+1+1+1+1+1+1,0,none⟩) 2 2,.slice (some ⟨w.heap.size+1+1+1+1+1+1+1+1,0,none⟩) 2 2] 32)) (.cells #[.int .i64 1,.int .i64 3,.int .i64 2,.int .i64 1] 38)) (.cells #[.int .i64 1,.int .i64 2,.int .i64 3] 3)) (.cells #[.int .i64 2] 3)) (.cells #[.int .i64 10,.int .i64 5,.int .i64 1,.slice (some ⟨w.heap.size+1+1,0,none⟩) 3 3,.int .i64 10,.int .i64 10,.int .i64 0,.int .i64 11,.int .i64 6,.int .i64 1,.slice (some ⟨w.heap.size+1+1+1,0,none⟩) 1 1,.int .i64 40,.int .i64 40,.int .i64 0] 79)) 3 #[.int .i64 1,.int .i64 2]).alloc (.cells #[.int .i64 3] 3)).alloc (.cells #[.int .i64 20,.int .i64 10,.int .i64 7,.slice (some ⟨w.heap.size+1+1+1+1+1,0,none⟩) 2 2,.int .i64 20,.int .i64 50,.int .i64 60,.int .i64 0,.int .i64 21,.int .i64 10,.int .i64 5,.slice (some ⟨w.heap.size+1+1+1+1+1+1,0,none⟩) 1 1,.int .i64 5,.int .i64 30,.int .i64 60,.int .i64 0] 75)).alloc (.cells #[.int .i64 30,.int .i64 5,.int .i64 1,.int .i64 1,.int .i64 25,.int .i64 70,.int .i64 0,.int .i64 31,.int .i64 0,.int .i64 1,.int .i64 2,.int .i64 22,.int .i64 80,.int .i64 0] 70)
  (try simp only [World.size_alloc] at h)
  rw [hW9]
  exact h
 have b6:BoxA W9 (w.heap.size+1+1+1+1+1+1) 3 #[.int .i64 3]:=by
  have h:=((BoxA.new (World.alloc (World.alloc (World.alloc (World.alloc (World.alloc (World.alloc w (.cells #[.slice (some ⟨w.heap.size+1,0,none⟩) 2 2,.slice (some ⟨w.heap.size+1+1+1+1,0,none⟩) 2 2,.slice (some ⟨w.heap.size+1+1+1+1+1+1+1,0,none⟩) 2 2,.slice (some ⟨w.heap.size+1+1+1+1+1+1+1+1,0,none⟩) 2 2] 32)) (.cells #[.int .i64 1,.int .i64 3,.int .i64 2,.int .i64 1] 38)) (.cells #[.int .i64 1,.int .i64 2,.int .i64 3] 3)) (.cells #[.int .i64 2] 3)) (.cells #[.int .i64 10,.int .i64 5,.int .i64 1,.slice (some ⟨w.heap.size+1+1,0,none⟩) 3 3,.int .i64 10,.int .i64 10,.int .i64 0,.int .i64 11,.int .i64 6,.int .i64 1,.slice (some ⟨w.heap.size+1+1+1,0,none⟩) 1 1,.int .i64 40,.int .i64 40,.int .i64 0] 79)) (.cells #[.int .i64 1,.int .i64 2] 3)) 3 #[.int .i64 3]).alloc (.cells #[.int .i64 20,.int .i64 10,.int .i64 7,.slice (some ⟨w.heap.size+1+1+1+1+1,0,none⟩) 2 2,.int .i64 20,.int .i64 50,.int .i64 60,.int .i64 0,.int .i64 21,.int .i64 10,.int .i64 5,.slice (some ⟨w.heap.size+1+1+1+1+1+1,0,none⟩) 1 1,.int .i64 5,.int .i64 30,.int .i64 60,.int .i64 0] 75)).alloc (.cells #[.int .i64 30,.int .i64 5,.int .i64 1,.int .i64 1,.int .i64 25,.int .i64 70,.int .i64 0,.int .i64 31,.int .i64 0,.int .i64 1,.int .i64 2,.int .i64 22,.int .i64 80,.int .i64 0] 70)
  (try simp only [World.size_alloc] at h)
  rw [hW9]
  exact h
 have b7:BoxA W9 (w.heap.size+1+1+1+1+1+1+1) 75 #[.int .i64 20,.int .i64 10,.int .i64 7,.slice (some ⟨w.heap.size+1+1+1+1+1,0,none⟩) 2 2,.int .i64 20,.int .i64 50,.int .i64 60,.int .i64 0,.int .i64 21,.int .i64 10,.int .i64 5,.slice (some ⟨w.heap.size+1+1+1+1+1+1,0,none⟩) 1 1,.int .i64 5,.int .i64 30,.int .i64 60,.int .i64 0]:=by
  have h:=(BoxA.new (World.alloc (World.alloc (World.alloc (World.alloc (World.alloc (World.alloc (World.alloc w (.cells #[.slice (some ⟨w.heap.size+1,0,none⟩) 2 2,.slice (some ⟨w.heap.size+1+1+1+1,0,none⟩) 2 2,.slice (some ⟨w.heap.size+1+1+1+1+1+1+1,0,none⟩) 2 2,.slice (some ⟨w.heap.size+1+1+1+1+1+1+1+1,0,none⟩) 2 2] 32)) (.cells #[.int .i64 1,.int .i64 3,.int .i64 2,.int .i64 1] 38)) (.cells #[.int .i64 1,.int .i64 2,.int .i64 3] 3)) (.cells #[.int .i64 2] 3)) (.cells #[.int .i64 10,.int .i64 5,.int .i64 1,.slice (some ⟨w.heap.size+1+1,0,none⟩) 3 3,.int .i64 10,.int .i64 10,.int .i64 0,.int .i64 11,.int .i64 6,.int .i64 1,.slice (some ⟨w.heap.size+1+1+1,0,none⟩) 1 1,.int .i64 40,.int .i64 40,.int .i64 0] 79)) (.cells #[.int .i64 1,.int .i64 2] 3)) (.cells #[.int .i64 3] 3)) 75 #[.int .i64 20,.int .i64 10,.int .i64 7,.slice (some ⟨w.heap.size+1+1+1+1+1,0,none⟩) 2 2,.int .i64 20,.int .i64 50,.int .i64 60,.int .i64 0,.int .i64 21,.int .i64 10,.int .i64 5,.slice (some ⟨w.heap.size+1+1+1+1+1+1,0,none⟩) 1 1,.int .i64 5,.int .i64 30,.int .i64 60,.int .i64 0]).alloc (.cells #[.int .i64 30,.int .i64 5,.int .i64 1,.int .i64 1,.int .i64 25,.int .i64 70,.int .i64 0,.int .i64 31,.int .i64 0,.int .i64 1,.int .i64 2,.int .i64 22,.int .i64 80,.int .i64 0] 70)
  (try simp only [World.size_alloc] at h)
  rw [hW9]
  exact h
 have b8:BoxA W9 (w.heap.size+1+1+1+1+1+1+1+1) 70 #[.int .i64 30,.int .i64 5,.int .i64 1,.int .i64 1,.int .i64 25,.int .i64 70,.int .i64 0,.int .i64 31,.int .i64 0,.int .i64 1,.int .i64 2,.int .i64 22,.int .i64 80,.int .i64 0]:=by
  have h:=BoxA.new (World.alloc (World.alloc (World.alloc (World.alloc (World.alloc (World.alloc (World.alloc (World.alloc w (.cells #[.slice (some ⟨w.heap.size+1,0,none⟩) 2 2,.slice (some ⟨w.heap.size+1+1+1+1,0,none⟩) 2 2,.slice (some ⟨w.heap.size+1+1+1+1+1+1+1,0,none⟩) 2 2,.slice (some ⟨w.heap.size+1+1+1+1+1+1+1+1,0,none⟩) 2 2] 32)) (.cells #[.int .i64 1,.int .i64 3,.int .i64 2,.int .i64 1] 38)) (.cells #[.int .i64 1,.int .i64 2,.int .i64 3] 3)) (.cells #[.int .i64 2] 3)) (.cells #[.int .i64 10,.int .i64 5,.int .i64 1,.slice (some ⟨w.heap.size+1+1,0,none⟩) 3 3,.int .i64 10,.int .i64 10,.int .i64 0,.int .i64 11,.int .i64 6,.int .i64 1,.slice (some ⟨w.heap.size+1+1+1,0,none⟩) 1 1,.int .i64 40,.int .i64 40,.int .i64 0] 79)) (.cells #[.int .i64 1,.int .i64 2] 3)) (.cells #[.int .i64 3] 3)) (.cells #[.int .i64 20,.int .i64 10,.int .i64 7,.slice (some ⟨w.heap.size+1+1+1+1+1,0,none⟩) 2 2,.int .i64 20,.int .i64 50,.int .i64 60,.int .i64 0,.int .i64 21,.int .i64 10,.int .i64 5,.slice (some ⟨w.heap.size+1+1+1+1+1+1,0,none⟩) 1 1,.int .i64 5,.int .i64 30,.int .i64 60,.int .i64 0] 75)) 70 #[.int .i64 30,.int .i64 5,.int .i64 1,.int .i64 1,.int .i64 25,.int .i64 70,.int .i64 0,.int .i64 31,.int .i64 0,.int .i64 1,.int .i64 2,.int .i64 22,.int .i64 80,.int .i64 0]
  (try simp only [World.size_alloc] at h)
  rw [hW9]
  exact h
 have hB:Below w.heap.size w W9:=by rw [hW9];exact bel_
 have hml:(3:Nat)≤maxLen:=by decide
 have i2:Is W9 W9.heap.size (some ⟨w.heap.size+1+1,0,none⟩) 3 [1,2,3]:=rd_box b2 rfl
 have i3:Is W9 W9.heap.size (some ⟨w.heap.size+1+1+1,0,none⟩) 1 [2]:=rd_box b3 rfl
 have i5:Is W9 W9.heap.size (some ⟨w.heap.size+1+1+1+1+1,0,none⟩) 2 [1,2]:=rd_box b5 rfl
 have i6:Is W9 W9.heap.size (some ⟨w.heap.size+1+1+1+1+1+1,0,none⟩) 1 [3]:=rd_box b6 rfl
 have hl:LedIn W9 W9.heap.size ⟨some ⟨w.heap.size+1,0,none⟩,2,2,some ⟨w.heap.size+1+1+1+1,0,none⟩,2,2,some ⟨w.heap.size+1+1+1+1+1+1+1,0,none⟩,2,2,some ⟨w.heap.size+1+1+1+1+1+1+1+1,0,none⟩,2,2⟩ exL2:=by
  refine ⟨sq_pp (rd_box b1 rfl) rfl,?_,?_,sq_sg (rd_box b8 rfl) rfl⟩
  ·have h:=rcs_of (sq_rv (xs:=[⟨⟨10,5,1,[1,2,3],10,10,0⟩,some ⟨w.heap.size+1+1,0,none⟩,3,3⟩,⟨⟨11,6,1,[2],40,40,0⟩,some ⟨w.heap.size+1+1+1,0,none⟩,1,1⟩]) (rd_box b4 rfl) rfl (fun v hv=>by
    simp only [List.mem_cons,List.not_mem_nil,or_false] at hv
    rcases hv with rfl | rfl
    ·exact ⟨i2,lr_,hml⟩
    ·exact ⟨i3,lr_,by show 1≤maxLen;exact Nat.le_trans (by decide) hml⟩))
   exact h
  ·have h:=rts_of (xs:=[⟨⟨20,10,7,[1,2],20,50,60,0⟩,some ⟨w.heap.size+1+1+1+1+1,0,none⟩,2,2⟩,⟨⟨21,10,5,[3],5,30,60,0⟩,some ⟨w.heap.size+1+1+1+1+1+1,0,none⟩,1,1⟩]) (rd_box b7 rfl) rfl (fun v hv=>by
    simp only [List.mem_cons,List.not_mem_nil,or_false] at hv
    rcases hv with rfl | rfl
    ·exact ⟨i5,lr_,by show 2≤maxLen;exact Nat.le_trans (by decide) hml⟩
    ·exact ⟨i6,lr_,by show 1≤maxLen;exact Nat.le_trans (by decide) hml⟩)
   exact h
 have HL:=hd_ hl
 have HB:=hd_ hB
 have HW9:=hd_ hW9
 have k0:=b0.cell
 have z0:=b0.lt
 clear hl hB hW9 b0 b1 b2 b3 b4 b5 b6 b7 b8 i2 i3 i5 i6
 go_enter Tryz.func75,Tryz.ntmps75
 go_wp2
 refine bodyPost_w (W2:=W9) (by rw [HW9.out]) ?_
 refine bodyPost_ret (v:=.agg #[.slice (some ⟨w.heap.size+1,0,none⟩) 2 2,.slice (some ⟨w.heap.size+1+1+1+1,0,none⟩) 2 2,.slice (some ⟨w.heap.size+1+1+1+1+1+1+1,0,none⟩) 2 2,.slice (some ⟨w.heap.size+1+1+1+1+1+1+1+1,0,none⟩) 2 2]) ?_ rfl ?_
 ·(simp [results,Tryz.f75,go_sem];try go_simp)
 ·have h2:2≤2∧2≤maxLen:=⟨lr_,by omega⟩
  exact ⟨⟨some ⟨w.heap.size+1,0,none⟩,2,2,some ⟨w.heap.size+1+1+1+1,0,none⟩,2,2,some ⟨w.heap.size+1+1+1+1+1+1+1,0,none⟩,2,2,some ⟨w.heap.size+1+1+1+1+1+1+1+1,0,none⟩,2,2⟩,rfl,HB.out,⟨h2,h2,h2,h2⟩,HL.out⟩
def RetK (xs:List Int) (n:Nat) (w:World) (e:Ending) (w':World):Prop:=∃ A c,e=.returned (.tuple #[.slice A n c,.int .i64 0])∧Below w.heap.size w w'∧Is w' w'.heap.size A n xs
theorem RetLE.k {xs:List Int} {n:Nat} {w w':World} {e:Ending} (hn:xs.length=n) (h:RetLE (xs,0) w e w'):RetK xs n w e w':=by
 obtain ⟨A,m,c,rfl,hb,hi,_,_⟩:=h
 have h1:xs.length=m:=hi.len
 obtain rfl:m=n:=by omega
 exact ⟨A,c,rfl,hb,hi⟩
def RetKF (xs:List (Int × Int)) (n:Nat) (w:World) (e:Ending) (w':World):Prop:=∃ A c,e=.returned (.tuple #[.slice A n c,.int .i64 0])∧Below w.heap.size w w'∧Sq QF 2 w' w'.heap.size A n xs
theorem RetFE.k {xs:List (Int × Int)} {n:Nat} {w w':World} {e:Ending} (hn:xs.length=n) (h:RetFE (xs,0) w e w'):RetKF xs n w e w':=by
 obtain ⟨A,m,c,rfl,hb,hi,hm⟩:=h
 have h1:xs.length=m:=hm
 obtain rfl:m=n:=by omega
 exact ⟨A,c,rfl,hb,sq_of_own hi hm⟩
theorem s_Double (x:Lsl) (w:World) (hf:x.fit) (hd:LedIn w w.heap.size x exL2) :
 Calls Tryz.prog 28 #[.agg #[.slice x.pA x.pn x.pc,.slice x.rA x.rn x.rc,.slice x.tA x.tn x.tc,.slice x.sA x.sn x.sc],.int .i64 50] w (RetK [10,11] 2 w):=by
 have h:=p_Double exL2 x 50 w hf hd
 rw [ex2_double] at h
 exact h.mono fun _ _ h=>h.k rfl
theorem s_Days (x:Lsl) (w:World) (hf:x.fit) (hd:LedIn w w.heap.size x exL2) :
 Calls Tryz.prog 25 #[.agg #[.slice x.pA x.pn x.pc,.slice x.rA x.rn x.rc,.slice x.tA x.tn x.tc,.slice x.sA x.sn x.sc],.int .i64 20,.int .i64 70] w (fun e w'=>e=.returned (.tuple #[.agg #[.int .i64 26,.int .i64 40],.int .i64 0])∧Below w.heap.size w w'):=by
 have h:=p_Days2 exL2 x 20 70 w hf hd
 rw [ex2_days] at h
 exact h
theorem s_Clash (x:Lsl) (w:World) (hf:x.fit) (hd:LedIn w w.heap.size x exL2) :
 Calls Tryz.prog 29 #[.agg #[.slice x.pA x.pn x.pc,.slice x.rA x.rn x.rc,.slice x.tA x.tn x.tc,.slice x.sA x.sn x.sc],.int .i64 80] w (RetK [30,31] 2 w):=by
 have h:=p_Clash exL2 x 80 w hf hd
 rw [ex2_clash] at h
 exact h.mono fun _ _ h=>h.k rfl
theorem s_Where (x:Lsl) (w:World) (hf:x.fit) (hd:LedIn w w.heap.size x exL2) :
 Calls Tryz.prog 17 #[.agg #[.slice x.pA x.pn x.pc,.slice x.rA x.rn x.rc,.slice x.tA x.tn x.tc,.slice x.sA x.sn x.sc],.agg #[.int .i64 1,.int .i64 1],.int .i64 24,.int .i64 60] w (RetK [0,5] 2 w):=by
 have h:=p_WhereX exL2 x 1 1 24 60 w hf hd (by decide)
 rw [ex2_where] at h
 exact h.mono fun _ _ h=>h.k rfl
theorem s_Whole (x:Lsl) (w:World) (hf:x.fit) (hd:LedIn w w.heap.size x exL2) :
 Calls Tryz.prog 34 #[.agg #[.slice x.pA x.pn x.pc,.slice x.rA x.rn x.rc,.slice x.tA x.tn x.tc,.slice x.sA x.sn x.sc],.int .i64 1,.int .i64 30,.int .i64 60] w (fun e w'=>e=.returned (.tuple #[.int .i64 2,.int .i64 0])∧Below w.heap.size w w'):=by
 have h:=p_WholeX exL2 x 1 30 60 w hf hd
 rw [ex2_whole] at h
 exact h
theorem s_Lies (x:Lsl) (w:World) (hf:x.fit) (hd:LedIn w w.heap.size x exL2) :
 Calls Tryz.prog 35 #[.agg #[.slice x.pA x.pn x.pc,.slice x.rA x.rn x.rc,.slice x.tA x.tn x.tc,.slice x.sA x.sn x.sc],.int .i64 10,.int .i64 40,.int .i64 60] w (fun e w'=>e=.returned (.tuple #[.int .i64 0,.int .i64 0])∧Below w.heap.size w w'):=by
 have h:=p_Lies exL2 x 10 40 60 w hf hd
 rw [ex2_lies] at h
 exact h
theorem s_Has (x:Lsl) (w:World) (hf:x.fit) (hd:LedIn w w.heap.size x exL2) :
 Calls Tryz.prog 15 #[.agg #[.slice x.pA x.pn x.pc,.slice x.rA x.rn x.rc,.slice x.tA x.tn x.tc,.slice x.sA x.sn x.sc],.int .i64 5,.int .i64 19,.int .i64 60] w (RetKF [(1,1),(1,2)] 2 w):=by
 have h:=p_HasX exL2 x 5 19 60 w hf hd
 rw [ex2_has] at h
 exact h.mono fun _ _ h=>h.k rfl
theorem s_Moved (x:Lsl) (w:World) (hf:x.fit) (hd:LedIn w w.heap.size x exL2) :
 Calls Tryz.prog 36 #[.agg #[.slice x.pA x.pn x.pc,.slice x.rA x.rn x.rc,.slice x.tA x.tn x.tc,.slice x.sA x.sn x.sc],.int .i64 20,.int .i64 30,.int .i64 60] w (RetKF [(1,1),(1,2),(1,3),(2,1)] 4 w):=by
 have h:=p_MovedX exL2 x 20 30 60 w hf hd
 rw [ex2_moved] at h
 exact h.mono fun _ _ h=>h.k rfl
theorem s_Placed (x:Lsl) (D:Option Addr) (c0:Nat) (w:World) (hf:x.fit) (hd:LedIn w w.heap.size x exL2) (hy:Is w w.heap.size D 2 [25,30]) :
 Calls Tryz.prog 14 #[.agg #[.slice x.pA x.pn x.pc,.slice x.rA x.rn x.rc,.slice x.tA x.tn x.tc,.slice x.sA x.sn x.sc],.slice D 2 c0,.int .i64 1,.int .i64 27,.int .i64 60] w (RetK [0,0,5] 3 w):=by
 have h:=p_PlacedX exL2 x [25,30] D 2 c0 1 27 60 w hf hd (by decide) hy
 rw [ex2_placed] at h
 exact h.mono fun _ _ h=>h.k rfl
theorem s_True (x:Lsl) (D:Option Addr) (c0:Nat) (w:World) (hf:x.fit) (hd:LedIn w w.heap.size x exL2) (hy:Is w w.heap.size D 2 [41,11]) :
 Calls Tryz.prog 13 #[.agg #[.slice x.pA x.pn x.pc,.slice x.rA x.rn x.rc,.slice x.tA x.tn x.tc,.slice x.sA x.sn x.sc],.int .i64 60,.slice D 2 c0] w (fun e w'=>e=.returned (.int .i64 29)∧Below w.heap.size w w'):=by
 have h:=p_CheckTrue exL2 x 60 [41,11] D 2 c0 w hf hd (by decide) hy
 rw [ex2_true] at h
 exact h
set_option maxRecDepth 100000 in
theorem r_sane2 (w:World) :
 Calls Tryz.prog 21 #[] w fun e w'=>e=.returned (.bool true)∧Below w.heap.size w w':=by
 go_enter Tryz.func21,Tryz.ntmps21
 go_wp2_with fail
 refine (r_ledger _).mono ?_
 rintro e w1 ⟨⟨pA,pn,pc,rA,rn,rc,tA,tn,tc,sA,sn,sc⟩,rfl,hb1,hf,hd1⟩
 have HB1:Below w.heap.size w w1:=hb1
 have HD:=hd_ hd1
 have HF:=hd_ hf
 have bL:=BoxA.new w1 32 #[.slice pA pn pc,.slice rA rn rc,.slice tA tn tc,.slice sA sn sc]
 clear hd1 hb1 hf
 go_wp2_with fail
 refine (s_Double ⟨pA,pn,pc,rA,rn,rc,tA,tn,tc,sA,sn,sc⟩ _ HF.out (HD.out.now (by exact bel_))).mono ?_
 rintro e w2 ⟨A2,c2,rfl,hb,hi⟩
 have HQ:Below w1.heap.size w1 w2:=bt_ (by exact bel_) hb
 have HB2:Below w.heap.size w w2:=bt_ HB1 HQ
 replace HD:=hd_ (HD.out.now HQ)
 replace bL:=bL.ext hb
 have kL:=bL.cell
 have zL:=bL.lt
 have J2:=hd_ hi
 clear hi
 clear hb HB1 HQ
 go_wp2_with fail
 refine (s_Days ⟨pA,pn,pc,rA,rn,rc,tA,tn,tc,sA,sn,sc⟩ _ HF.out (HD.out.now (by exact bel_))).mono ?_
 rintro e w3 ⟨rfl,hb⟩
 have HQ:Below w2.heap.size w2 w3:=bt_ (by exact bel_) hb
 have HB3:Below w.heap.size w w3:=bt_ HB2 HQ
 replace HD:=hd_ (HD.out.now HQ)
 replace bL:=bL.ext HQ
 replace kL:=bL.cell
 replace zL:=bL.lt
 replace J2:=hd_ (J2.out.now HQ)
 clear hb HB2 HQ
 go_wp2_with fail
 refine (s_Clash ⟨pA,pn,pc,rA,rn,rc,tA,tn,tc,sA,sn,sc⟩ _ HF.out (HD.out.now (by exact bel_))).mono ?_
 rintro e w4 ⟨A4,c4,rfl,hb,hi⟩
 have HQ:Below w3.heap.size w3 w4:=bt_ (by exact bel_) hb
 have HB4:Below w.heap.size w w4:=bt_ HB3 HQ
 replace HD:=hd_ (HD.out.now HQ)
 replace bL:=bL.ext HQ
 replace kL:=bL.cell
 replace zL:=bL.lt
 replace J2:=hd_ (J2.out.now HQ)
 have bR:=(BoxA.new w3 61 #[.int .i64 26,.int .i64 40]).ext hb
 have r0:=bR.cell 0
 have r1:=bR.cell 1
 have zR:=bR.lt
 have J4:=hd_ hi
 clear hi
 clear hb HB3 HQ
 go_wp2_with fail
 refine (s_Where ⟨pA,pn,pc,rA,rn,rc,tA,tn,tc,sA,sn,sc⟩ _ HF.out (HD.out.now (by exact bel_))).mono ?_
 rintro e w5 ⟨A5,c5,rfl,hb,hi⟩
 have HQ:Below w4.heap.size w4 w5:=bt_ (by exact bel_) hb
 have HB5:Below w.heap.size w w5:=bt_ HB4 HQ
 replace HD:=hd_ (HD.out.now HQ)
 replace bL:=bL.ext HQ
 replace kL:=bL.cell
 replace zL:=bL.lt
 replace J2:=hd_ (J2.out.now HQ)
 replace bR:=bR.ext HQ
 replace r0:=bR.cell 0
 replace r1:=bR.cell 1
 replace zR:=bR.lt
 replace J4:=hd_ (J4.out.now HQ)
 have J5:=hd_ hi
 clear hi
 clear hb HB4 HQ
 go_wp2_with fail
 refine (s_Whole ⟨pA,pn,pc,rA,rn,rc,tA,tn,tc,sA,sn,sc⟩ _ HF.out (HD.out.now (by exact bel_))).mono ?_
 rintro e w6 ⟨rfl,hb⟩
 have HQ:Below w5.heap.size w5 w6:=bt_ (by exact bel_) hb
 have HB6:Below w.heap.size w w6:=bt_ HB5 HQ
 replace HD:=hd_ (HD.out.now HQ)
 replace bL:=bL.ext HQ
 replace kL:=bL.cell
 replace zL:=bL.lt
 replace J2:=hd_ (J2.out.now HQ)
 replace bR:=bR.ext HQ
 replace r0:=bR.cell 0
 replace r1:=bR.cell 1
 replace zR:=bR.lt
 replace J4:=hd_ (J4.out.now HQ)
 replace J5:=hd_ (J5.out.now HQ)
 clear hb HB5 HQ
 go_wp2_with fail
 refine (s_Lies ⟨pA,pn,pc,rA,rn,rc,tA,tn,tc,sA,sn,sc⟩ _ HF.out (HD.out.now (by exact bel_))).mono ?_
 rintro e w7 ⟨rfl,hb⟩
 have HQ:Below w6.heap.size w6 w7:=bt_ (by exact bel_) hb
 have HB7:Below w.heap.size w w7:=bt_ HB6 HQ
 replace HD:=hd_ (HD.out.now HQ)
 replace bL:=bL.ext HQ
 replace kL:=bL.cell
 replace zL:=bL.lt
 replace J2:=hd_ (J2.out.now HQ)
 replace bR:=bR.ext HQ
 replace r0:=bR.cell 0
 replace r1:=bR.cell 1
 replace zR:=bR.lt
 replace J4:=hd_ (J4.out.now HQ)
 replace J5:=hd_ (J5.out.now HQ)
 clear hb HB6 HQ
 go_wp2_with fail
 refine (s_Has ⟨pA,pn,pc,rA,rn,rc,tA,tn,tc,sA,sn,sc⟩ _ HF.out (HD.out.now (by exact bel_))).mono ?_
 rintro e w8 ⟨A8,c8,rfl,hb,hi⟩
 have HQ:Below w7.heap.size w7 w8:=bt_ (by exact bel_) hb
 have HB8:Below w.heap.size w w8:=bt_ HB7 HQ
 replace HD:=hd_ (HD.out.now HQ)
 replace bL:=bL.ext HQ
 replace kL:=bL.cell
 replace zL:=bL.lt
 replace J2:=hd_ (J2.out.now HQ)
 replace bR:=bR.ext HQ
 replace r0:=bR.cell 0
 replace r1:=bR.cell 1
 replace zR:=bR.lt
 replace J4:=hd_ (J4.out.now HQ)
 replace J5:=hd_ (J5.out.now HQ)
 have J8:=hd_ hi
 clear hi
 clear hb HB7 HQ
 go_wp2_with fail
 refine (s_Placed ⟨pA,pn,pc,rA,rn,rc,tA,tn,tc,sA,sn,sc⟩ _ _ _ HF.out (HD.out.now (by exact bel_)) (Rd.new _ #[.int .i64 25,.int .i64 30] _ 1 2 _ (by simp) rfl)).mono ?_
 rintro e w9 ⟨A9,c9,rfl,hb,hi⟩
 have HQ:Below w8.heap.size w8 w9:=bt_ (by exact bel_) hb
 have HB9:Below w.heap.size w w9:=bt_ HB8 HQ
 replace HD:=hd_ (HD.out.now HQ)
 replace bL:=bL.ext HQ
 replace kL:=bL.cell
 replace zL:=bL.lt
 replace J2:=hd_ (J2.out.now HQ)
 replace bR:=bR.ext HQ
 replace r0:=bR.cell 0
 replace r1:=bR.cell 1
 replace zR:=bR.lt
 replace J4:=hd_ (J4.out.now HQ)
 replace J5:=hd_ (J5.out.now HQ)
 replace J8:=hd_ (J8.out.now abF HQ)
 have J9:=hd_ hi
 clear hi
 clear hb HB8 HQ
 go_wp2_with fail
 refine (s_Moved ⟨pA,pn,pc,rA,rn,rc,tA,tn,tc,sA,sn,sc⟩ _ HF.out (HD.out.now (by exact bel_))).mono ?_
 rintro e w10 ⟨A10,c10,rfl,hb,hi⟩
 have HQ:Below w9.heap.size w9 w10:=bt_ (by exact bel_) hb
 have HB10:Below w.heap.size w w10:=bt_ HB9 HQ
 replace HD:=hd_ (HD.out.now HQ)
 replace bL:=bL.ext HQ
 replace kL:=bL.cell
 replace zL:=bL.lt
 replace J2:=hd_ (J2.out.now HQ)
 replace bR:=bR.ext HQ
 replace r0:=bR.cell 0
 replace r1:=bR.cell 1
 replace zR:=bR.lt
 replace J4:=hd_ (J4.out.now HQ)
 replace J5:=hd_ (J5.out.now HQ)
 replace J8:=hd_ (J8.out.now abF HQ)
 replace J9:=hd_ (J9.out.now HQ)
 clear hi
 clear hb HB9 HQ
 go_wp2_with fail
 refine (r_Same2 [10,11] [10,11] true _ _ 2 _ 2 _ _ (by decide) (by decide) (J2.out.now (by exact bel_)) (Rd.new _ #[.int .i64 10,.int .i64 11] _ 1 2 _ (by simp) rfl) (by decide)).mono ?_
 rintro e w11 ⟨rfl,hb⟩
 have HQ:Below w10.heap.size w10 w11:=bt_ (by exact bel_) hb
 have HB11:Below w.heap.size w w11:=bt_ HB10 HQ
 replace HD:=hd_ (HD.out.now HQ)
 replace bL:=bL.ext HQ
 replace kL:=bL.cell
 replace zL:=bL.lt
 replace bR:=bR.ext HQ
 replace r0:=bR.cell 0
 replace r1:=bR.cell 1
 replace zR:=bR.lt
 replace J4:=hd_ (J4.out.now HQ)
 replace J5:=hd_ (J5.out.now HQ)
 replace J8:=hd_ (J8.out.now abF HQ)
 replace J9:=hd_ (J9.out.now HQ)
 clear hb HB10 HQ
 go_wp2_with fail
 refine (r_Same2 [30,31] [30,31] true _ _ 2 _ 2 _ _ (by decide) (by decide) (J4.out.now (by exact bel_)) (Rd.new _ #[.int .i64 30,.int .i64 31] _ 1 2 _ (by simp) rfl) (by decide)).mono ?_
 rintro e w12 ⟨rfl,hb⟩
 have HQ:Below w11.heap.size w11 w12:=bt_ (by exact bel_) hb
 have HB12:Below w.heap.size w w12:=bt_ HB11 HQ
 replace HD:=hd_ (HD.out.now HQ)
 replace bL:=bL.ext HQ
 replace kL:=bL.cell
 replace zL:=bL.lt
 replace J5:=hd_ (J5.out.now HQ)
 replace J8:=hd_ (J8.out.now abF HQ)
 replace J9:=hd_ (J9.out.now HQ)
 clear hb HB11 HQ
 go_wp2_with fail
 refine (r_Same2 [0,5] [0,5] true _ _ 2 _ 2 _ _ (by decide) (by decide) (J5.out.now (by exact bel_)) (Rd.new _ #[.int .i64 0,.int .i64 5] _ 1 2 _ (by simp) rfl) (by decide)).mono ?_
 rintro e w13 ⟨rfl,hb⟩
 have HQ:Below w12.heap.size w12 w13:=bt_ (by exact bel_) hb
 have HB13:Below w.heap.size w w13:=bt_ HB12 HQ
 replace HD:=hd_ (HD.out.now HQ)
 replace bL:=bL.ext HQ
 replace kL:=bL.cell
 replace zL:=bL.lt
 replace J8:=hd_ (J8.out.now abF HQ)
 replace J9:=hd_ (J9.out.now HQ)
 clear hb HB12 HQ
 go_wp2_with fail
 refine (r_SameFols [(1,1),(1,2)] [(1,1),(1,2)] true _ _ 2 _ 2 _ _ (by decide) (by decide) (J8.out.now abF (by exact bel_)) ((BoxA.new _ 48 #[.int .i64 1,.int .i64 1,.int .i64 1,.int .i64 2]).sqF (P:=[(1,1),(1,2)]) rfl (by simp)) (by decide)).mono ?_
 rintro e w14 ⟨rfl,hb⟩
 have HQ:Below w13.heap.size w13 w14:=bt_ (by exact bel_) hb
 have HB14:Below w.heap.size w w14:=bt_ HB13 HQ
 replace HD:=hd_ (HD.out.now HQ)
 replace bL:=bL.ext HQ
 replace kL:=bL.cell
 replace zL:=bL.lt
 replace J9:=hd_ (J9.out.now HQ)
 clear hb HB13 HQ
 go_wp2_with fail
 refine (r_Same2 [0,0,5] [0,0,5] true _ _ 3 _ 3 _ _ (by decide) (by decide) (J9.out.now (by exact bel_)) (Rd.new _ #[.int .i64 0,.int .i64 0,.int .i64 5] _ 1 3 _ (by simp) rfl) (by decide)).mono ?_
 rintro e w15 ⟨rfl,hb⟩
 have HQ:Below w14.heap.size w14 w15:=bt_ (by exact bel_) hb
 have HB15:Below w.heap.size w w15:=bt_ HB14 HQ
 replace HD:=hd_ (HD.out.now HQ)
 replace bL:=bL.ext HQ
 replace kL:=bL.cell
 replace zL:=bL.lt
 clear hb HB14 HQ
 go_wp2_with fail
 refine (s_True ⟨pA,pn,pc,rA,rn,rc,tA,tn,tc,sA,sn,sc⟩ _ _ _ HF.out (HD.out.now (by exact bel_)) (Rd.new _ #[.int .i64 41,.int .i64 11] _ 1 2 _ (by simp) rfl)).mono ?_
 rintro e w16 ⟨rfl,hb⟩
 have HQ:Below w15.heap.size w15 w16:=bt_ (by exact bel_) hb
 have HB16:Below w.heap.size w w16:=bt_ HB15 HQ
 replace HD:=hd_ (HD.out.now HQ)
 replace bL:=bL.ext HQ
 replace kL:=bL.cell
 replace zL:=bL.lt
 clear hb HB15 HQ
 go_wp2_with fail
 go_ret
 exact ⟨rfl,HB16⟩
end Go.Proofs.YtmcmbicapdcfmaaGreat
