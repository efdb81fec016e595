/- What the map from tags to places holds. -/
import Derived.Test.YteecpandpkicmaaPlaces
namespace Go.Proofs.Yteecpandpkicmaa
open Go.RowKit Go.Maps Go.WideShapes

theorem sameKey_keyL {g g' : Int} (h : wfI g) (h' : wfI g') : (keyL g).sameKey (keyL g') = decide (g = g') := by
  by_cases e : g = g'
  · subst e; simp [keyL, Lit.sameKey]
  · have : keyL g ≠ keyL g' := fun h1 => e (keyL_inj h h' h1)
    unfold keyL at this ⊢
    simp only [Lit.sameKey, e, decide_false, beq_eq_false_iff_ne]
    intro h1
    exact this (by rw [h1])

def ents {H : Type} : DataW H → List (Lit × DataW H)
  | .map es => es
  | _ => []
abbrev litI (i : Nat) : DataW Unit := .lit (.int .i64 ((i : Nat) : Int))
def placesE (l : List Ev) (k : Nat) : List (Lit × DataW Unit) := ents (placesD l ((List.finRange l.length).take k))
theorem placesD_isMap (l : List Ev) : ∀ k, k ≤ l.length → placesD (H := Unit) l ((List.finRange l.length).take k) = .map (placesE l k)
  | 0, _ => rfl
  | k + 1, h => by
    have ih := placesD_isMap l k (by omega)
    unfold placesE
    rw [fin_take_succ _ _ (by omega), placesD_snoc, ih]
    rfl
theorem placesE_succ (l : List Ev) (k : Nat) (h : k < l.length) : placesE l (k + 1) = DataW.insert (keyL (evAt l k).g, litI k) ((placesE l k).filter fun p => !p.1.sameKey (keyL (evAt l k).g)) := by
  have ih := placesD_isMap l k (by omega)
  conv => lhs; unfold placesE
  rw [fin_take_succ _ _ h, placesD_snoc, ih]
  rfl

/- Behind k events: each entry is the last of its tag; each tag has one; as many as events just where no tag came twice. -/
structure PlacesAt (l : List Ev) (k : Nat) : Prop where
  le : (placesE l k).length ≤ k
  ent : ∀ p ∈ placesE l k, ∃ i, i < k ∧ p = (keyL (evAt l i).g, litI i) ∧ ∀ j, i < j → j < k → (evAt l j).g ≠ (evAt l i).g
  has : ∀ i, i < k → ∃ p ∈ placesE l k, p.1 = keyL (evAt l i).g
  iff : (placesE l k).length = k ↔ ∀ i, i < k → ∀ j, j < i → (evAt l j).g ≠ (evAt l i).g

theorem placesAt (l : List Ev) (hw : ∀ i, i < l.length → wfI (evAt l i).g) : ∀ k, k ≤ l.length → PlacesAt l k
  | 0, _ => ⟨Nat.le_refl _, fun p hp => (by cases hp), fun i hi => (by omega), ⟨fun _ i hi => (by omega), fun _ => rfl⟩⟩
  | k + 1, h => by
    have ih := placesAt l hw k (by omega)
    have hk := hw k (by omega)
    have hs := placesE_succ l k (by omega)
    have hlen : (placesE l (k + 1)).length = ((placesE l k).filter fun p => !p.1.sameKey (keyL (evAt l k).g)).length + 1 := by rw [hs, length_insert]
    have hfl : ((placesE l k).filter fun p => !p.1.sameKey (keyL (evAt l k).g)).length ≤ (placesE l k).length := List.length_filter_le _ _
    refine ⟨by have := ih.le; omega, ?_, ?_, ?_⟩
    · intro p hp
      rw [hs] at hp
      rcases ChangeMaps.mem_insert_iff.1 hp with rfl | hp
      · exact ⟨k, by omega, rfl, fun j h1 h2 => by omega⟩
      · obtain ⟨hp, hn⟩ := List.mem_filter.1 hp
        obtain ⟨i, hi, rfl, hl⟩ := ih.ent p hp
        refine ⟨i, by omega, rfl, fun j h1 h2 => ?_⟩
        by_cases e : j = k
        · subst e
          simp only [sameKey_keyL (hw i (by omega)) hk, Bool.not_eq_true', decide_eq_false_iff_not] at hn
          exact fun e => hn e.symm
        · exact hl j h1 (by omega)
    · intro i hi
      rw [hs]
      by_cases e : (evAt l i).g = (evAt l k).g
      · exact ⟨_, ChangeMaps.mem_insert_iff.2 (.inl rfl), by rw [e]⟩
      · have hik : i < k := by
          rcases Nat.lt_or_ge i k with h | h
          · exact h
          · exact absurd (by rw [show i = k from by omega]) e
        obtain ⟨p, hp, he⟩ := ih.has i hik
        refine ⟨p, ChangeMaps.mem_insert_iff.2 (.inr (List.mem_filter.2 ⟨hp, ?_⟩)), he⟩
        rw [he, sameKey_keyL (hw i (by omega)) hk]
        simpa using e
    · rw [hlen]
      constructor
      · intro heq
        have hall : (placesE l k).length = k := by have := ih.le; omega
        have hfe : ((placesE l k).filter fun p => !p.1.sameKey (keyL (evAt l k).g)).length = (placesE l k).length := by omega
        have hf := List.length_filter_eq_length_iff.1 hfe
        intro i hi j hj
        by_cases e : i = k
        · subst e
          obtain ⟨p, hp, he⟩ := ih.has j hj
          have := hf p hp
          rw [he, sameKey_keyL (hw j (by omega)) hk] at this
          simpa using this
        · exact (ih.iff.1 hall) i (by omega) j hj
      · intro hd
        have hall : (placesE l k).length = k := ih.iff.2 (fun i hi j hj => hd i (by omega) j hj)
        have hfe : ((placesE l k).filter fun p => !p.1.sameKey (keyL (evAt l k).g)).length = (placesE l k).length := by
          refine List.length_filter_eq_length_iff.2 (fun p hp => ?_)
          obtain ⟨i, hi, rfl, _⟩ := ih.ent p hp
          rw [sameKey_keyL (hw i (by omega)) hk]
          simpa using hd k (by omega) i hi
        omega
end Go.Proofs.Yteecpandpkicmaa
