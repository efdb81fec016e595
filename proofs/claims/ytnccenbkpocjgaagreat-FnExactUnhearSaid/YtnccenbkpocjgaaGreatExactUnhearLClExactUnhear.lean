/- ClExactUnhear -/
import Derived.Test.YtnccenbkpocjgaaGreatRows
import Derived.ProofKit
import Derived.JoinedOf
/- The closed facts of the row of FnExactUnhear. -/
namespace Go.Proofs.YtnccenbkpocjgaaGreat.ClExactUnhear
open Go.ChangeShapes Go.WideShapes Go.ChangeAt Go.RowKit Go.Proofs.YtnccenbkpocjgaaGreat
set_option maxHeartbeats 64000000 in
theorem closed : joinedFacts Tryz.prog 5 Tryz.f5 Rows.fnExactUnhearSpec Rows.fnExactUnhearRow = true := by
 unfold joinedFacts
 simp only [Bool.and_eq_true]
 repeat' apply And.intro
 all_goals as_aux_lemma => kernel_rfl
end Go.Proofs.YtnccenbkpocjgaaGreat.ClExactUnhear
