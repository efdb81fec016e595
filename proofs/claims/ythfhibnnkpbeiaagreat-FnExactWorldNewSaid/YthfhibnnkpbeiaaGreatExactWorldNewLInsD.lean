/- The specification's l1insert: the row that comes out is one's own. -/
import Derived.Test.YthfhibnnkpbeiaaGreatExactWorldNewG09
import Derived.Test.YthfhibnnkpbeiaaGreatExactWorldNewG07
import Derived.Test.YthfhibnnkpbeiaaGreatExactWorldNewG16
import Derived.Test.YthfhibnnkpbeiaaGreatExactWorldNewG01
import Derived.Laws.OwnMore
import Derived.WalkSmall
import Derived.Laws.AppendOwnNone
namespace Go.Proofs.YthfhibnnkpbeiaaGreat
open Go.RowKit
def InsAt (l : List Ev) (e : Ev) (p : Nat) : Prop := p ≤ l.length ∧ (∀ j, j < p → (evAt l j).cmp e < 0) ∧ (p < l.length → ¬ (evAt l p).cmp e < 0)
theorem Ev.cs_one (e : Ev) : ∀ u ∈ e.cs, u.oneCell' = true := by
 intro u h
 simp [Ev.cs] at h
 rcases h with rfl | rfl | rfl | rfl | rfl | rfl | rfl <;> rfl
end Go.Proofs.YthfhibnnkpbeiaaGreat
