/- What a queue is. -/
import Derived.Test.YteecpandpkicmaaSays
namespace Go.Proofs.Yteecpandpkicmaa
open Go.RowKit
def Good1 (l : List Ev) (i : Nat) : Prop := (evAt l i).ok = true ∧ (0 < i → (evAt l (i - 1)).cmp (evAt l i) < 0) ∧ ∀ j, j < i → (evAt l j).g ≠ (evAt l i).g
def GoodQ (l : List Ev) : Prop := l.length ≤ 2000 ∧ ∀ i, i < l.length → Good1 l i
theorem no_good {l : List Ev} {k : Nat} (hk : k < l.length) (h : ¬ Good1 l k) : ¬ GoodQ l := fun e => (h (e.2 k hk)).elim

end Go.Proofs.Yteecpandpkicmaa
