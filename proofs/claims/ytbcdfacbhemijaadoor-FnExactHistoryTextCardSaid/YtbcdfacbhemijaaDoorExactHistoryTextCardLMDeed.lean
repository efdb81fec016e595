/- What an op is told as, whatever its code; whether it asks. -/
import Derived.Test.YtbcdfacbhemijaaDoorExactHistoryTextCardLMOpI
namespace Go.Proofs.YtbcdfacbhemijaaDoor
open Go.RowKit
def deedV (c a b k : Int) : Value :=
  if c = 0 then vAdd a b
  else if c = 1 then vTake a
  else if c = 2 then vSend a b k
  else if c = 3 then vSkip a b k
  else if c = 4 then vAsk a b
  else if c = 5 then vEmit a
  else if c = 6 then vDraw a b
  else .nilIface
theorem deedOf_any (c a b k : Int) (w : World) : Calls Tryd.prog 58 #[.agg #[.int .i64 c, .int .i64 a, .int .i64 b, .int .i64 k]] w fun e w' => e = .returned (deedV c a b k) ∧ Below w.heap.size w w' := by
  have hc : c = 0 ∨ c = 1 ∨ c = 2 ∨ c = 3 ∨ c = 4 ∨ c = 5 ∨ c = 6 ∨ (¬ c = 0 ∧ ¬ c = 1 ∧ ¬ c = 2 ∧ ¬ c = 3 ∧ ¬ c = 4 ∧ ¬ c = 5 ∧ ¬ c = 6) := by omega
  rcases hc with rfl | rfl | rfl | rfl | rfl | rfl | rfl | ⟨c0, c1, c2, c3, c4, c5, c6⟩
  · exact deed_adding _ _ _ _
  · exact deed_taking _ _ _ _
  · exact deed_sending _ _ _ _
  · exact deed_skipping _ _ _ _
  · exact deed_asking _ _ _ _
  · exact deed_emitting _ _ _ _
  · exact deed_drawing _ _ _ _
  · have e : deedV c a b k = .nilIface := by simp [deedV, c0, c1, c2, c3, c4, c5, c6]
    rw [e]
    exact deed_none _ _ _ _ _ c0 c1 c2 c3 c4 c5 c6
end Go.Proofs.YtbcdfacbhemijaaDoor
