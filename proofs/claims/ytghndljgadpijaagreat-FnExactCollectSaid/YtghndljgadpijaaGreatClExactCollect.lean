/- The closed facts of the row of FnExactCollect. -/
import Derived.Test.YtghndljgadpijaaGreatRows
import Derived.ProofKit
import Derived.JoinedOf
namespace Go.Proofs.YtghndljgadpijaaGreat.ClExactCollect
open Go.ChangeShapes Go.WideShapes Go.ChangeAt Go.RowKit Go.Proofs.YtghndljgadpijaaGreat
set_option maxHeartbeats 64000000 in
theorem closed:joinedFacts Tryz.prog 3 Tryz.f3 Rows.fnExactCollectSpec Rows.fnExactCollectRow=true:=by
  unfold joinedFacts
  simp only [Bool.and_eq_true]
  repeat' apply And.intro
  all_goals as_aux_lemma=>kernel_rfl
end Go.Proofs.YtghndljgadpijaaGreat.ClExactCollect
