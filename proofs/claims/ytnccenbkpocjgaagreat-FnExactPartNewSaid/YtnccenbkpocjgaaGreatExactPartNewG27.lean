/- Places, PTt -/
import Derived.Test.YtnccenbkpocjgaaGreatExactPartNewG06
import Derived.Test.YtnccenbkpocjgaaGreatExactPartNewG02
import Derived.Test.YtnccenbkpocjgaaGreatOpen
import Derived.DeepKeys4
import Derived.Maps.OwnIn
import Derived.Test.YtnccenbkpocjgaaGreatExactPartNewLPOwn
import Derived.Laws.Slices
import Derived.Test.YtnccenbkpocjgaaGreatExactPartNewLMOpJ
import Derived.Sort.BigQuietIn
import Derived.Test.YtnccenbkpocjgaaGreatExactPartNewG15
import Derived.Test.YtnccenbkpocjgaaGreatExactPartNewG14
import Derived.Test.YtnccenbkpocjgaaGreatExactPartNewG08
import Derived.Test.YtnccenbkpocjgaaGreatExactPartNewG03
import Derived.Test.YtnccenbkpocjgaaGreatExactPartNewG01
import Derived.Test.YtnccenbkpocjgaaGreatExactPartNewG25
import Derived.Maps.OwnSet
import Derived.Test.YtnccenbkpocjgaaGreatExactPartNewG13
import Derived.Deep.RegionHeld3
/- The program's map from tags to places. -/
namespace Go.Proofs.YtnccenbkpocjgaaGreat
open Go.RowKit Go.Shelf Go.Maps Go.WideShapes
attribute [local go_sem] Oper.semAt_some
end Go.Proofs.YtnccenbkpocjgaaGreat

/- The specification's Trim. -/
namespace Go.Proofs.YtnccenbkpocjgaaGreat
open Go.RowKit
def Pa.none : Pa := ⟨0, ⟨[], 0, 0⟩, [], [], []⟩
theorem none_partF (w : World) (F : Nat → Prop) : PartF F w (.agg #[.int .i64 0, .slice none 0 0, .int .i64 0, .int .i64 0, .slice none 0 0, .slice none 0 0, .slice none 0 0]) Pa.none :=
 ⟨fun _ => False, fun _ => False, fun _ => False, fun _ => False, _, _, _, _, rfl, .nil _ _ _ _ _ (Nat.zero_le _), .nil _ _ _ _ _ (Nat.zero_le _), .nil _ _ _ _ _ (Nat.zero_le _), .nil _ _ _ _ _ (Nat.zero_le _), fun _ h => h.elim, fun _ h => h.elim, fun _ h => h.elim, fun _ h => h.elim⟩
end Go.Proofs.YtnccenbkpocjgaaGreat

