/- Layer 2 of the texts that LoanDoubles takes: Vbqq. -/
import Derived.Test.YtoiompoapikkbaaGreatVbmq
set_option linter.unusedVariables false
set_option linter.unusedSimpArgs false
/- contradict, find, first, checkDays. -/
namespace Go.Proofs.YtoiompoapikkbaaGreat
open Go.RowKit
end Go.Proofs.YtoiompoapikkbaaGreat
/- The program's deeds that count. -/
namespace Go.Proofs.YtoiompoapikkbaaGreat
open Go.RowKit
end Go.Proofs.YtoiompoapikkbaaGreat
/- even. -/
namespace Go.Proofs.YtoiompoapikkbaaGreat
open Go.RowKit
end Go.Proofs.YtoiompoapikkbaaGreat
/- slices.BinarySearch at numbers. -/
namespace Go.Proofs.YtoiompoapikkbaaGreat
open Go.RowKit
end Go.Proofs.YtoiompoapikkbaaGreat
/- keys.Dates. -/
namespace Go.Proofs.YtoiompoapikkbaaGreat
open Go.RowKit
end Go.Proofs.YtoiompoapikkbaaGreat
/- InOffice, Holds, Has. -/
namespace Go.Proofs.YtoiompoapikkbaaGreat
open Go.RowKit Go.Shelf Go.Maps
end Go.Proofs.YtoiompoapikkbaaGreat
/- Layer 2: a ledger without what a source says: plain facts. -/
namespace Go.Proofs.YtoiompoapikkbaaGreat
open Go.RowKit Go.Maps
def excL (l:Led) (s:Int):Led:=⟨l.pp,l.rc.filter (fun r=>!(r.src == s)),l.rt.filter (fun r=>!(r.src == s)),l.sg.filter (fun r=>!(r.src == s))⟩
theorem LedOk.exc {l:Led} (h:LedOk l) (s:Int):LedOk (excL l s) :=
 ⟨h.pn,Nat.le_trans (List.length_filter_le _ _) h.rn,Nat.le_trans (List.length_filter_le _ _) h.tn,Nat.le_trans (List.length_filter_le _ _) h.sn,h.pp,fun r hr=>h.rc r (List.mem_filter.1 hr).1,fun r hr=>h.rt r (List.mem_filter.1 hr).1,fun r hr=>h.sg r (List.mem_filter.1 hr).1⟩
def movL (l:Led) (src day kn:Int):List (Int × Int):=(folL l.pp).filter fun f=>!decide (whL l kn day f=whL (excL l src) kn day f)
def movX (l:Led) (src day kn:Int):List (Int × Int) × Int :=
 if preE l [day,kn]=0 then (if src∈srcL l then (if setE l kn=setE (excL l src) kn then (if setE l kn=0 then (movL l src day kn,0) else ([],0)) else (folL l.pp,0)) else ([],3)) else ([],preE l [day,kn])
theorem exc_rv (xs:List Rv) (s:Int):(xs.filter fun v=>!(v.r.src == s)).map Rv.r=(xs.map Rv.r).filter fun r=>!(r.src == s):=by
 rw [List.filter_map]
 rfl
theorem exc_tv (xs:List Tv) (s:Int):(xs.filter fun v=>!(v.r.src == s)).map Tv.r=(xs.map Tv.r).filter fun r=>!(r.src == s):=by
 rw [List.filter_map]
 rfl
end Go.Proofs.YtoiompoapikkbaaGreat
