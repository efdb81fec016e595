/- What a function that gives a list and a flag answers. -/
import Derived.Test.YteecpandpkicmaaFind
import Derived.Test.YteecpandpkicmaaMarks
namespace Go.Proofs.Yteecpandpkicmaa
open Go.RowKit

/- What the two functions of this kind answer: a list of one's own and a flag. -/
def Answers (B : Nat) (l' : List Ev) (bb : Bool) (e : Ending) (w' : World) : Prop := ∃ x, e = .returned (.tuple #[x, .bool bb]) ∧ OwnEvs B w' x l'
theorem OwnEvs.nil (B : Nat) (w : World) : OwnEvs B w (.slice none 0 0) [] := ⟨none, 0, rfl, Nat.le_refl _, by unfold maxLen; omega, .inl rfl⟩
theorem OwnEvs.mono {B B' : Nat} {w : World} {x : Value} {l : List Ev} (h : OwnEvs B w x l) (hB : B' ≤ B) : OwnEvs B' w x l := by
  obtain ⟨a, cap, e, h1, h2, h⟩ := h
  exact ⟨a, cap, e, h1, h2, h.imp id (fun ⟨g, e, hg, hr⟩ => ⟨g, e, Nat.le_trans hB hg, hr⟩)⟩

theorem firstAt_unique {l : List Ev} {tag : Int} {i j : Nat} (h : FirstAt l tag i) (h' : FirstAt l tag j) : i = j := by
  rcases Nat.lt_trichotomy i j with h1 | h1 | h1
  · exact absurd h.2.1 (h'.2.2 i h1)
  · exact h1
  · exact absurd h'.2.1 (h.2.2 j h1)

end Go.Proofs.Yteecpandpkicmaa
