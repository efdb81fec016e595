/- The order of events, and the place of one in a queue. -/
import Derived.Test.YteecpandpkicmaaSortsG15
import Derived.Test.YteecpandpkicmaaSortsG14
import Derived.Test.YteecpandpkicmaaSortsG01
namespace Go.Proofs.Yteecpandpkicmaa
open Go.RowKit
theorem cmp_up {a b e : Ev} (h : ¬ a.cmp e < 0) (hab : a.cmp b < 0) : ¬ b.cmp e < 0 := by
  unfold Ev.cmp at *
  rw [cmpI_lt] at *
  omega
/- The place of e in l: all ahead of it are less, the one there is not. -/
def InsAt (l : List Ev) (e : Ev) (p : Nat) : Prop := p ≤ l.length ∧ (∀ j, j < p → (evAt l j).cmp e < 0) ∧ (p < l.length → ¬ (evAt l p).cmp e < 0)
theorem goodQ_up {l : List Ev} (hg : GoodQ l) {e : Ev} {i : Nat} (h : ¬ (evAt l i).cmp e < 0) : ∀ d, i + d < l.length → ¬ (evAt l (i + d)).cmp e < 0
  | 0, _ => h
  | d + 1, hd => cmp_up (goodQ_up hg h d (by omega)) (by
      have := (hg.2 (i + d + 1) (by omega)).2.1 (by omega)
      rw [show i + (d + 1) = i + d + 1 from by omega]
      simpa using this)
theorem insAt_unique {l : List Ev} (hg : GoodQ l) {e : Ev} {p i : Nat} (h : InsAt l e p) (hi : i ≤ l.length) (h1 : i = 0 ∨ (evAt l (i - 1)).cmp e < 0) (h2 : i < l.length → ¬ (evAt l i).cmp e < 0) : i = p := by
  rcases Nat.lt_trichotomy i p with hlt | heq | hlt
  · exact absurd (h.2.1 i hlt) (h2 (by have := h.1; omega))
  · exact heq
  · have hp := h.2.2 (by omega)
    have := goodQ_up hg hp (i - 1 - p) (by omega)
    rw [show p + (i - 1 - p) = i - 1 from by omega] at this
    rcases h1 with h1 | h1
    · omega
    · exact absurd h1 this
end Go.Proofs.Yteecpandpkicmaa
