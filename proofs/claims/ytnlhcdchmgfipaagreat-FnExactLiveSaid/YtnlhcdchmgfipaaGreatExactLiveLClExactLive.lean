/- ClExactLive -/
import Derived.Test.YtnlhcdchmgfipaaGreatRows
import Derived.ProofKit
import Derived.JoinedOf
/- The closed facts of the row of FnExactLive. -/
namespace Go.Proofs.YtnlhcdchmgfipaaGreat.ClExactLive
open Go.ChangeShapes Go.WideShapes Go.ChangeAt Go.RowKit Go.Proofs.YtnlhcdchmgfipaaGreat
set_option maxHeartbeats 64000000 in
theorem closed : joinedFacts Tryz.prog 10 Tryz.f10 Rows.fnExactLiveSpec Rows.fnExactLiveRow = true := by
 unfold joinedFacts
 simp only [Bool.and_eq_true]
 repeat' apply And.intro
 all_goals as_aux_lemma => kernel_rfl
end Go.Proofs.YtnlhcdchmgfipaaGreat.ClExactLive
