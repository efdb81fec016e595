/- Both OpOk, of a model that is read. -/
import Derived.Test.YtbljfphdghfkfaaGreatDoorSequencesCardG00
import Derived.Test.YtbljfphdghfkfaaGreatDoorSequencesCardLMOpJ
namespace Go.Proofs.YtbljfphdghfkfaaGreatDoor
open Go.RowKit
theorem iOpM (x : Value) (m : Md) (c a b k : Int) (w : World) (h : IsM w x m) :
  Calls Tryz.prog 13 #[x, .agg #[.int .i64 c, .int .i64 a, .int .i64 b, .int .i64 k]] w fun e w' => e = .returned (.bool (okO m.n m.h.length c a b k)) ∧ Below w.heap.size w w' := by
 obtain ⟨vi, vh, vs, rfl, _, ⟨ah, cap, rfl, _⟩, _⟩ := h
 exact iOp_any _ _ _ _ _ _ _ _ _ _ _ _ _
end Go.Proofs.YtbljfphdghfkfaaGreatDoor
