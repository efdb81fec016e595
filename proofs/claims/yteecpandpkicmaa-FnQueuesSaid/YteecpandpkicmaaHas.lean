/- What the map from tags to places has. -/
import Derived.Test.YteecpandpkicmaaDiffer
import Derived.Test.YteecpandpkicmaaFind
import Derived.Maps.OwnSet
namespace Go.Proofs.Yteecpandpkicmaa
open Go.RowKit Go.Maps Go.WideShapes

theorem has_no {l : List Ev} {tag : Int} (hw : ∀ i, i < l.length → wfI (evAt l i).g) (ht : wfI tag) (h : NoTag l tag) : Maps.has (placesD (H := Unit) l (List.finRange l.length)) (keyL tag) = false := by
  have hD := placesD_isMap l l.length (Nat.le_refl _)
  rw [finRange_all] at hD
  rw [hD]
  unfold Maps.has
  simp only [List.any_eq_false]
  intro p hp
  obtain ⟨i, hi, rfl, _⟩ := (placesAt l hw l.length (Nat.le_refl _)).ent p hp
  rw [sameKey_keyL (hw i hi) ht]
  simpa using h i hi
theorem has_yes {l : List Ev} {tag : Int} {i : Nat} (hw : ∀ i, i < l.length → wfI (evAt l i).g) (ht : wfI tag) (hd : ∀ i, i < l.length → ∀ j, j < i → (evAt l j).g ≠ (evAt l i).g) (h : FirstAt l tag i) :
    Maps.has (placesD (H := Unit) l (List.finRange l.length)) (keyL tag) = true ∧ ∀ c : Int, (placesD (H := Unit) l (List.finRange l.length)).atKey (keyL tag) (.lit (.int .i64 0)) = .lit (.int .i64 c) → c = (i : Int) := by
  have hD := placesD_isMap l l.length (Nat.le_refl _)
  rw [finRange_all] at hD
  rw [hD]
  have P := placesAt l hw l.length (Nat.le_refl _)
  obtain ⟨hi, hg, _⟩ := h
  obtain ⟨p, hp, he⟩ := P.has i hi
  have hs : p.1.sameKey (keyL tag) = true := by rw [he, sameKey_keyL (hw i hi) ht]; simpa using hg
  refine ⟨?_, ?_⟩
  · unfold Maps.has
    simp only [List.any_eq_true]
    exact ⟨p, hp, hs⟩
  · intro c hc
    simp only [DataW.atKey] at hc
    cases hf : (placesE l l.length).find? (fun p => p.1.sameKey (keyL tag)) with
    | none => exact absurd hs (by simpa using List.find?_eq_none.1 hf p hp)
    | some q =>
      rw [hf] at hc
      have hq := List.find?_some hf
      obtain ⟨j, hj, rfl, _⟩ := P.ent q (List.mem_of_find?_eq_some hf)
      simp only [sameKey_keyL (hw j hj) ht, decide_eq_true_eq] at hq
      have hij : j = i := by
        rcases Nat.lt_trichotomy j i with h1 | h1 | h1
        · exact absurd (hq.trans hg.symm) (hd i hi j h1)
        · exact h1
        · exact absurd (hg.trans hq.symm) (hd j hj i h1)
      simp only [litI] at hc
      injection hc with h1
      injection h1 with _ h2
      rw [← h2, hij]

end Go.Proofs.Yteecpandpkicmaa
