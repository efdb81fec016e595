/- The pile's form. -/
import Derived.Test.YteecpandpkicmaaOwnS
import Derived.Test.YteecpandpkicmaaUpI
import Derived.Test.YteecpandpkicmaaDownI
namespace Go.Proofs.Yteecpandpkicmaa
open Go.RowKit
theorem Pl.form {w : World} {B P : Nat} {v : Value} {l : List Ev} (h : Pl w B P v l) {n : Nat} (hl : l.length = n + 1) : ∃ g cap, v = .slice (some ⟨g, 0, none⟩) (n + 1) cap ∧ Row w B g cap l ∧ P ≠ g := by
  obtain ⟨g, cap, e, hr, hg⟩ := h.rowed (by omega)
  exact ⟨g, cap, by rw [e, hl], hr, hg⟩
theorem Pl.at {w : World} {B P g cap n : Nat} {l : List Ev} (hb : Boxed w P 89 (.slice (some ⟨g, 0, none⟩) n cap)) (hr : Row w B g cap l) (hl : l.length = n) (hB : B ≤ P) : Pl w B P (.slice (some ⟨g, 0, none⟩) n cap) l := by
  subst hl; exact ⟨hb, hr, hB⟩

end Go.Proofs.Yteecpandpkicmaa
