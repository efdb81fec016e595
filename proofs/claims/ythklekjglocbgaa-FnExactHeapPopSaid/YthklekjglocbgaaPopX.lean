/- Both HeapPop give the same. -/
import Derived.Test.YthklekjglocbgaaPp1
import Derived.Test.YthklekjglocbgaaPp2
import Derived.Test.YthklekjglocbgaaPp3
import Derived.Test.YthklekjglocbgaaPp4
import Derived.Test.YthklekjglocbgaaPp5
import Derived.Test.YthklekjglocbgaaPp6
namespace Go.Proofs.Ythklekjglocbgaa
open Go.RowKit
theorem pop_both (l : List Ev) (hl : l.length ≤ 1048576) : ∃ (l' : List Ev) (f : Ev) (bb : Bool), l'.length ≤ 1048577 ∧
    (∀ (w : World) (g : Nat), RowTo w g l.length l l.length → Calls Try.prog 19 #[.slice (some ⟨g, 0, none⟩) l.length l.length] w fun e w' => Answers3 w.heap.size l' f bb e w' ∧ Below w.heap.size w w') ∧
    (∀ (w : World) (g : Nat), RowTo w g l.length l l.length → Calls Try.prog 20 #[.slice (some ⟨g, 0, none⟩) l.length l.length] w fun e w' => Answers3 w.heap.size l' f bb e w' ∧ Below w.heap.size w w') := by
  by_cases hn : l.length = 0
  · exact ⟨[], zeroEv, false, by simp, fun w g h => sPop_nil g l w hl h hn, fun w g h => iPop_nil g l w hl h hn⟩
  · by_cases hg : GoodH l
    · obtain ⟨n, hn'⟩ : ∃ n, l.length = n + 1 := ⟨l.length - 1, by omega⟩
      exact ⟨takeL l 0, evAt l 0, true, by rw [takeL_length]; omega, fun w g h => sPop_good g l w hl h hg n hn', fun w g h => iPop_good g l w hl h hg n hn'⟩
    · exact ⟨[], zeroEv, false, by simp, fun w g h => sPop_bad g l w hl h hg (by omega), fun w g h => iPop_bad g l w hl h hg (by omega)⟩
end Go.Proofs.Ythklekjglocbgaa
