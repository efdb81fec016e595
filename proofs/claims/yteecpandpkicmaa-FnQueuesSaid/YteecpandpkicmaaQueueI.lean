/- The program's tagsDiffer and QueueOk. -/
import Derived.Test.YteecpandpkicmaaPlacesM
import Derived.Test.YteecpandpkicmaaDiffer
import Derived.Test.YteecpandpkicmaaLessI
import Derived.Test.YteecpandpkicmaaInOrd
import Derived.Test.YteecpandpkicmaaGood
import Derived.Maps.OwnSet
namespace Go.Proofs.Yteecpandpkicmaa
open Go.RowKit Go.Maps Go.WideShapes

theorem goodQ_iff (l : List Ev) : GoodQ l ↔ l.length ≤ 2000 ∧ (∀ i, i < l.length → (evAt l i).ok = true) ∧ (∀ i, i < l.length - 1 → (evAt l i).ecmp (evAt l (i + 1)) = -1) ∧ ∀ i, i < l.length → ∀ j, j < i → (evAt l j).g ≠ (evAt l i).g := by
  have key : (∀ i, i < l.length → (evAt l i).ok = true) → ∀ i, i < l.length - 1 → ((evAt l i).ecmp (evAt l (i + 1)) = -1 ↔ (evAt l i).cmp (evAt l (i + 1)) < 0) := fun h i hi => by
    have h1 : okB (evAt l i).t (evAt l i).s (evAt l i).q (evAt l i).d (evAt l i).k (evAt l i).v (evAt l i).g = true := h i (by omega)
    have h2 : okB (evAt l (i + 1)).t (evAt l (i + 1)).s (evAt l (i + 1)).q (evAt l (i + 1)).d (evAt l (i + 1)).k (evAt l (i + 1)).v (evAt l (i + 1)).g = true := h (i + 1) (by omega)
    unfold Ev.ecmp Ev.cmp ecmp
    rw [if_pos ⟨h1, h2⟩]
    have := cmpI_range (evAt l i).t (evAt l i).s (evAt l i).q (evAt l i).g (evAt l (i + 1)).t (evAt l (i + 1)).s (evAt l (i + 1)).q (evAt l (i + 1)).g
    omega
  constructor
  · rintro ⟨h1, h2⟩
    have hok : ∀ i, i < l.length → (evAt l i).ok = true := fun i hi => (h2 i hi).1
    exact ⟨h1, hok, fun i hi => (key hok i hi).2 ((h2 (i + 1) (by omega)).2.1 (by omega)), fun i hi => (h2 i hi).2.2⟩
  · rintro ⟨h1, h2, h3, h4⟩
    refine ⟨h1, fun i hi => ⟨h2 i hi, fun h0 => ?_, h4 i hi⟩⟩
    obtain ⟨k, rfl⟩ : ∃ k, i = k + 1 := ⟨i - 1, by omega⟩
    exact (key h2 k (by omega)).1 (h3 k (by omega))

set_option maxHeartbeats 1000000 in
theorem iQueue_parts (a : Option Addr) (cap b : Nat) (l : List Ev) (w : World) (hl : l.length ≤ 1048576) (hI : l = [] ∨ ∃ off, a = some ⟨b, off, none⟩ ∧ EvsAt w b off l) (hb : b < w.heap.size) :
    Calls Try.prog 13 #[.slice a l.length cap] w fun e w' => Says e (GoodQ l) ∧ Below w.heap.size w w' := by
  rw [goodQ_iff]
  have HI : Hid (l = [] ∨ ∃ off, a = some ⟨b, off, none⟩ ∧ EvsAt w b off l) := hI
  clear hI
  by_cases h0 : l.length ≤ 2000
  · have hd : decide (l.length ≤ 2000) = true := by simpa using h0
    have hd' : (l.length : Int) ≤ 2000 := by omega
    go_enter Try.func13, Try.ntmps13
    go_wp2_with fail
    refine (eventsOk_any a cap b l _ hl HI.out hb).mono ?_
    rintro e w1 ⟨⟨b1, rfl, hs1⟩, hb1⟩
    have HS1 : Hid (b1 = true ↔ ∀ i, i < l.length → (evAt l i).ok = true) := hs1
    clear hs1
    cases b1
    · go_wp2_with fail
      go_ret
      exact ⟨Says.no (fun h => by have := HS1.out.2 h.2.1; cases this), hb1⟩
    · have HOK : Hid (∀ i, i < l.length → (evAt l i).ok = true) := HS1.out.1 rfl
      clear HS1
      have HI1 : Hid (l = [] ∨ ∃ off, a = some ⟨b, off, none⟩ ∧ EvsAt w1 b off l) := parts_below HI.out hb hb1
      have hz1 : b < w1.heap.size := Nat.lt_of_lt_of_le hb hb1.size
      go_wp2_with fail
      refine (inOrder_any a cap b l _ hl HI1.out hz1).mono ?_
      rintro e w2 ⟨⟨b2, rfl, hs2⟩, hb2⟩
      have HS2 : Hid (b2 = true ↔ ∀ i, i < l.length - 1 → (evAt l i).ecmp (evAt l (i + 1)) = -1) := hs2
      have HB2 : Hid (Below w.heap.size w w2) := hb1.trans (hb2.mono hb1.size)
      clear hs2
      cases b2
      · go_wp2_with fail
        go_ret
        exact ⟨Says.no (fun h => by have := HS2.out.2 h.2.2.1; cases this), HB2.out⟩
      · have HO2 : Hid (∀ i, i < l.length - 1 → (evAt l i).ecmp (evAt l (i + 1)) = -1) := HS2.out.1 rfl
        clear HS2
        have HI2 : Hid (l = [] ∨ ∃ off, a = some ⟨b, off, none⟩ ∧ EvsAt w2 b off l) := parts_below HI1.out hz1 hb2
        have hz2 : b < w2.heap.size := Nat.lt_of_lt_of_le hz1 hb2.size
        go_wp2_with fail
        refine (tagsDiffer_any a cap b l _ hl HI2.out hz2 (fun i hi => okB_tag (HOK.out i hi))).mono ?_
        rintro e w3 ⟨⟨b3, rfl, hs3⟩, hb3⟩
        have HS3 : Hid (b3 = true ↔ ∀ i, i < l.length → ∀ j, j < i → (evAt l j).g ≠ (evAt l i).g) := hs3
        clear hs3
        go_wp2_with fail
        go_ret
        refine ⟨⟨b3, rfl, ?_⟩, HB2.out.trans (hb3.mono HB2.out.size)⟩
        rw [HS3.out]
        exact ⟨fun h => ⟨h0, HOK.out, HO2.out, h⟩, fun h => h.2.2.2⟩
  · have hd : decide (l.length ≤ 2000) = false := by simpa using h0
    have hd' : (2000 : Int) < (l.length : Int) := by omega
    go_enter Try.func13, Try.ntmps13
    go_wp2_with fail
    go_ret
    exact ⟨Says.no id, Below.refl _ _⟩
end Go.Proofs.Yteecpandpkicmaa
