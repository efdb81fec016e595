/- The program's tagsDiffer. -/
import Derived.Test.YteecpandpkicmaaPlacesM
import Derived.Test.YteecpandpkicmaaCmpI
import Derived.Maps.OwnSet
namespace Go.Proofs.Yteecpandpkicmaa
open Go.RowKit Go.Maps Go.WideShapes

theorem finRange_all (n : Nat) : (List.finRange n).take n = List.finRange n := List.take_of_length_le (by simp)
set_option maxHeartbeats 1000000 in
theorem tagsDiffer_any (a : Option Addr) (cap b : Nat) (l : List Ev) (w : World) (hl : l.length ≤ 1048576) (hI : l = [] ∨ ∃ off, a = some ⟨b, off, none⟩ ∧ EvsAt w b off l) (hb : b < w.heap.size) (hwf : ∀ i, i < l.length → wfI (evAt l i).g) :
    Calls Try.prog 38 #[.slice a l.length cap] w fun e w' => Says e (∀ i, i < l.length → ∀ j, j < i → (evAt l j).g ≠ (evAt l i).g) ∧ Below w.heap.size w w' := by
  have HP : Hid (PlacesAt l l.length) := placesAt l hwf l.length (Nat.le_refl _)
  have HC := places_any (H := Unit) a cap b l w hl hI hb hwf
  have HC' : Hid (Calls Try.prog 29 #[.slice a l.length cap] w fun e W' => e = .returned (.map (some w.heap.size)) ∧ W'.ownsMap Try.prog 25 (plainElem (H := Unit) Try.prog 3) w.heap.size l.length (placesD l (List.finRange l.length)) ∧ Below w.heap.size w W') := HC
  clear HC hI hwf
  go_enter Try.func38, Try.ntmps38
  go_wp2_with fail
  refine HC'.out.mono ?_
  rintro e w1 ⟨rfl, hown, hb1⟩
  have hD := placesD_isMap l l.length (Nat.le_refl _)
  rw [finRange_all] at hD
  have hrun := hown.len Try.underlying51 3
  rw [hD] at hrun
  have hm : (Maps.size (.map (placesE l l.length) : DataW Unit) : Int) = ((placesE l l.length).length : Int) := rfl
  rw [hm] at hrun
  generalize hn : (placesE l l.length).length = n at hrun
  have HN : Hid ((placesE l l.length).length = n) := hn
  clear hown hD hn hm
  go_wp2
  go_ret
  refine ⟨?_, hb1⟩
  have hiff := HP.out.iff
  rw [HN.out] at hiff
  refine ⟨_, rfl, ?_⟩
  rw [← hiff]
  simp
  omega

theorem okB_tag {t s q d k v g : Int} (h : okB t s q d k v g = true) : wfI g := by
  simp only [okB, decide_eq_true_eq] at h
  exact WalkArith.wf_i64 (by omega)
theorem IsEvs.parts {w : World} {x : Value} {l : List Ev} (h : IsEvs w x l) (hw : 0 < w.heap.size) : ∃ a cap b, x = .slice a l.length cap ∧ b < w.heap.size ∧ (l = [] ∨ ∃ off, a = some ⟨b, off, none⟩ ∧ EvsAt w b off l) := by
  obtain ⟨a, cap, rfl, _, _, h⟩ := h
  rcases h with h | ⟨b, off, rfl, h⟩
  · exact ⟨a, cap, 0, rfl, hw, .inl h⟩
  · exact ⟨_, cap, b, rfl, h.1, .inr ⟨off, rfl, h⟩⟩
theorem parts_below {w w' : World} {a : Option Addr} {b : Nat} {l : List Ev} (h : l = [] ∨ ∃ off, a = some ⟨b, off, none⟩ ∧ EvsAt w b off l) (hb : b < w.heap.size) (hB : Below w.heap.size w w') : l = [] ∨ ∃ off, a = some ⟨b, off, none⟩ ∧ EvsAt w' b off l :=
  h.imp id (fun ⟨off, e, h⟩ => ⟨off, e, h.below hB hb⟩)

end Go.Proofs.Yteecpandpkicmaa
