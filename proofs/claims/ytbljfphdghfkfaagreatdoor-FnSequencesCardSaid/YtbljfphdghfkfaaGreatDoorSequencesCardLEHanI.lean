/- The program's Handle. -/
import Derived.Test.YtbljfphdghfkfaaGreatDoorSequencesCardG17
import Derived.Test.YtbljfphdghfkfaaGreatDoorSequencesCardG19
namespace Go.Proofs.YtbljfphdghfkfaaGreatDoor
open Go.RowKit
theorem vec_of {l : List Int} (h : vok l = true) : ∃ c0 c1 c2 c3, l = [c0, c1, c2, c3] ∧ ∀ a : Int, -1 ≤ vecAt c0 c1 c2 c3 a ∧ vecAt c0 c1 c2 c3 a ≤ 1 := by
 obtain ⟨a, b, c, d, rfl, h0, h1, h2, h3⟩ := vok_four h
 refine ⟨a, b, c, d, rfl, fun i => ?_⟩
 unfold vecAt
 split
 ·omega
 ·split
  ·omega
  ·split <;> omega
end Go.Proofs.YtbljfphdghfkfaaGreatDoor
