/- The closed facts of the row of FnExactAnswers. -/
import Derived.Test.YtmobiieoecjmdaaGreatRows
import Derived.ProofKit
import Derived.JoinedOf
namespace Go.Proofs.YtmobiieoecjmdaaGreat.ClExactAnswers
open Go.ChangeShapes Go.WideShapes Go.ChangeAt Go.RowKit Go.Proofs.YtmobiieoecjmdaaGreat
set_option maxHeartbeats 64000000 in
theorem closed:joinedFacts Tryz.prog 6 Tryz.f6 Rows.fnExactAnswersSpec Rows.fnExactAnswersRow=true:=by
 unfold joinedFacts
 simp only [Bool.and_eq_true]
 repeat' apply And.intro
 all_goals as_aux_lemma=>kernel_rfl
end Go.Proofs.YtmobiieoecjmdaaGreat.ClExactAnswers
