/- markEventS writes numbers into every cell of a row; heldEventS finds them there. -/
import Derived.Test.YteecpandpkicmaaRows2
import Derived.Test.YteecpandpkicmaaNInts
namespace Go.Proofs.Yteecpandpkicmaa
open Go.RowKit
def markEv (z : Int) : Ev := ⟨z, z + 1, z + 1 + 1, z + 1 + 1 + 1, z + 1 + 1 + 1 + 1, z + 1 + 1 + 1 + 1 + 1, z + 1 + 1 + 1 + 1 + 1 + 1⟩
def marks (n : Nat) : List Ev := (List.range n).map fun i : Nat => markEv (7 * ((i : Nat) : Int) + 1)
theorem marks_length (n : Nat) : (marks n).length = n := by simp [marks]
theorem marks_at {n i : Nat} (h : i < n) : evAt (marks n) i = markEv (7 * (i : Int) + 1) := by simp [evAt, marks, h]
theorem put7_grown (w : World) (g o : Nat) (e : Ev) : w.grownBy (put7 w g o e) (some g) :=
  grown_trans (grown_trans (grown_trans (grown_trans (grown_trans (grown_trans (setCell_grown _ _ _ _) (setCell_grown _ _ _ _)) (setCell_grown _ _ _ _)) (setCell_grown _ _ _ _)) (setCell_grown _ _ _ _)) (setCell_grown _ _ _ _)) (setCell_grown _ _ _ _)

end Go.Proofs.Yteecpandpkicmaa
