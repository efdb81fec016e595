/- The specification's l4back: one that was done behind the other is undone. -/
import Derived.Test.YtnccenbkpocjgaaGreatExactPartNewG27
import Derived.Test.YtnccenbkpocjgaaGreatExactPartNewG01
import Derived.Test.YtnccenbkpocjgaaGreatExactPartNewLInsD
import Derived.Test.YtnccenbkpocjgaaGreatExactPartNewLInsG
import Derived.Deep.Cut
namespace Go.Proofs.YtnccenbkpocjgaaGreat
open Go.RowKit
theorem ownR_snoc {B : Nat} {w : World} {x : Value} {l : List Ev} {e : Ev} (h : w.ownsRow B 55 7 x (l.length + 1) (cellsL l ++ e.cs)) : OwnR B w x (l ++ [e]) := by
 unfold OwnR
 rw [cellsL_append, List.length_append]
 show World.ownsRow _ _ _ _ _ (l.length + 1) (cellsL l ++ (e.cs ++ []))
 rw [List.append_nil]
 exact h
end Go.Proofs.YtnccenbkpocjgaaGreat
