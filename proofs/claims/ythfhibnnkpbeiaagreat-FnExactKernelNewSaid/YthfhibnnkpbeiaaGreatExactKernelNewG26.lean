/- CmpI, InOrd, PIr, PIs -/
import Derived.Test.YthfhibnnkpbeiaaGreatExactKernelNewG19
import Derived.Test.YthfhibnnkpbeiaaGreatExactKernelNewG25
import Derived.Test.YthfhibnnkpbeiaaGreatExactKernelNewG01
import Derived.Deep.RegionHeld3
import Derived.Deep.DeepMust
import Derived.Test.YthfhibnnkpbeiaaGreatExactKernelNewG07
import Derived.Test.YthfhibnnkpbeiaaGreatExactKernelNewG06
import Derived.Test.YthfhibnnkpbeiaaGreatExactKernelNewG17
import Derived.Test.YthfhibnnkpbeiaaGreatExactKernelNewG05
/- The program's EventCmp. -/
namespace Go.Proofs.YthfhibnnkpbeiaaGreat
open Go.RowKit
theorem num_zero (a b : Int) : num a b = 0 ↔ a = b := by unfold num; split <;> (try split) <;> omega
theorem orL_cmp (t s q g t' s' q' g' : Int) : orL [num t t', num s s', num q q', num g g'] = cmpI t s q g t' s' q' g' := by
 unfold cmpI
 by_cases h1 : t = t'
 ·by_cases h2 : s = s'
  ·by_cases h3 : q = q'
   ·by_cases h4 : g = g' <;> simp [orL, num_zero, h1, h2, h3, h4]
    ·exact ((num_zero _ _).2 rfl).symm
   ·simp [orL, num_zero, h1, h2, h3]
  ·simp [orL, num_zero, h1, h2]
 ·simp [orL, num_zero, h1]
end Go.Proofs.YthfhibnnkpbeiaaGreat

/- The program's inOrder. -/
namespace Go.Proofs.YthfhibnnkpbeiaaGreat
open Go.RowKit Go.Shelf
attribute [local go_sem] Oper.semAt_some
end Go.Proofs.YthfhibnnkpbeiaaGreat

/- The program's allFor. -/
namespace Go.Proofs.YthfhibnnkpbeiaaGreat
open Go.RowKit Go.Shelf
attribute [local go_sem] Oper.semAt_some
end Go.Proofs.YthfhibnnkpbeiaaGreat

/- The program's sentOk. -/
namespace Go.Proofs.YthfhibnnkpbeiaaGreat
open Go.RowKit Go.Shelf
attribute [local go_sem] Oper.semAt_some
end Go.Proofs.YthfhibnnkpbeiaaGreat

