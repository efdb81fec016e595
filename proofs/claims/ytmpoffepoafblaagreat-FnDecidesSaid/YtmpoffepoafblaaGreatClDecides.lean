/- The closed facts of the row of FnDecides. -/
import Derived.Test.YtmpoffepoafblaaGreatRows
import Derived.ProofKit
import Derived.JoinedOf
namespace Go.Proofs.YtmpoffepoafblaaGreat.ClDecides
open Go.ChangeShapes Go.WideShapes Go.ChangeAt Go.RowKit Go.Proofs.YtmpoffepoafblaaGreat
set_option maxHeartbeats 64000000 in
theorem closed : joinedFacts Tryz.prog 6 Tryz.f6 Rows.fnDecidesSpec Rows.fnDecidesRow = true := by
  unfold joinedFacts
  simp only [Bool.and_eq_true]
  repeat' apply And.intro
  all_goals as_aux_lemma => kernel_rfl
end Go.Proofs.YtmpoffepoafblaaGreat.ClDecides
