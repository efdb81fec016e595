/- The program's HeapOk. -/
import Derived.Test.YthklekjglocbgabParI
import Derived.Test.YthklekjglocbgabDiffer
import Derived.Test.YthklekjglocbgabHeapS
namespace Go.Proofs.Ythklekjglocbgab
open Go.RowKit
theorem goodH_iff (l : List Ev) : GoodH l ↔ l.length ≤ 2000 ∧ (∀ i, i < l.length → (evAt l i).ok = true) ∧ (∀ i, i < l.length → ∀ j, j < i → (evAt l j).g ≠ (evAt l i).g) ∧ ∀ i, i < l.length → 0 < i → (evAt l ((i - 1) / 2)).cmp (evAt l i) < 0 :=
  ⟨fun ⟨h, k⟩ => ⟨h, fun i hi => (k i hi).1, fun i hi => (k i hi).2.2, fun i hi => (k i hi).2.1⟩, fun ⟨h, k1, k2, k3⟩ => ⟨h, fun i hi => ⟨k1 i hi, k3 i hi, k2 i hi⟩⟩⟩
set_option maxHeartbeats 1000000 in
theorem iHeap_parts (a : Option Addr) (cap b : Nat) (l : List Ev) (w : World) (hl : l.length ≤ 1048576) (hI : l = [] ∨ ∃ off, a = some ⟨b, off, none⟩ ∧ EvsAt w b off l) (hb : b < w.heap.size) :
    Calls Try.prog 25 #[.slice a l.length cap] w fun e w' => Says e (GoodH l) ∧ Below w.heap.size w w' := by
  rw [goodH_iff]
  have HI : Hid (l = [] ∨ ∃ off, a = some ⟨b, off, none⟩ ∧ EvsAt w b off l) := hI
  clear hI
  by_cases h0 : l.length ≤ 2000
  · have hd : decide (l.length ≤ 2000) = true := by simpa using h0
    have hd' : (l.length : Int) ≤ 2000 := by omega
    go_enter Try.func25, Try.ntmps25
    go_wp2_with fail
    refine (eventsOk_any a cap b l _ hl HI.out hb).mono ?_
    rintro e w1 ⟨⟨b1, rfl, hs1⟩, hb1⟩
    have HS1 : Hid (b1 = true ↔ ∀ i, i < l.length → (evAt l i).ok = true) := hs1
    clear hs1
    cases b1
    · go_wp2_with fail
      go_ret
      exact ⟨Says.no (fun h => by have := HS1.out.2 h.2.1; cases this), hb1⟩
    · have HOK : Hid (∀ i, i < l.length → (evAt l i).ok = true) := HS1.out.1 rfl
      clear HS1
      have HI1 : Hid (l = [] ∨ ∃ off, a = some ⟨b, off, none⟩ ∧ EvsAt w1 b off l) := parts_below HI.out hb hb1
      have hz1 : b < w1.heap.size := Nat.lt_of_lt_of_le hb hb1.size
      go_wp2_with fail
      refine (tagsDiffer_any a cap b l _ hl HI1.out hz1 (fun i hi => okB_tag (HOK.out i hi))).mono ?_
      rintro e w2 ⟨⟨b2, rfl, hs2⟩, hb2⟩
      have HS2 : Hid (b2 = true ↔ ∀ i, i < l.length → ∀ j, j < i → (evAt l j).g ≠ (evAt l i).g) := hs2
      have HB2 : Hid (Below w.heap.size w w2) := hb1.trans (hb2.mono hb1.size)
      clear hs2
      cases b2
      · go_wp2_with fail
        go_ret
        exact ⟨Says.no (fun h => by have := HS2.out.2 h.2.2.1; cases this), HB2.out⟩
      · have HO2 : Hid (∀ i, i < l.length → ∀ j, j < i → (evAt l j).g ≠ (evAt l i).g) := HS2.out.1 rfl
        clear HS2
        have HI2 : Hid (l = [] ∨ ∃ off, a = some ⟨b, off, none⟩ ∧ EvsAt w2 b off l) := parts_below HI1.out hz1 hb2
        have hz2 : b < w2.heap.size := Nat.lt_of_lt_of_le hz1 hb2.size
        go_wp2_with fail
        refine (parents_any a cap b l _ hl HI2.out hz2 HOK.out).mono ?_
        rintro e w3 ⟨⟨b3, rfl, hs3⟩, hb3⟩
        have HS3 : Hid (b3 = true ↔ ∀ i, i < l.length → 0 < i → (evAt l ((i - 1) / 2)).cmp (evAt l i) < 0) := hs3
        clear hs3
        go_wp2_with fail
        go_ret
        refine ⟨⟨b3, rfl, ?_⟩, HB2.out.trans (hb3.mono HB2.out.size)⟩
        rw [HS3.out]
        exact ⟨fun h => ⟨h0, HOK.out, HO2.out, h⟩, fun h => h.2.2.2⟩
  · have hd : decide (l.length ≤ 2000) = false := by simpa using h0
    have hd' : (2000 : Int) < (l.length : Int) := by omega
    go_enter Try.func25, Try.ntmps25
    go_wp2_with fail
    go_ret
    exact ⟨Says.no id, Below.refl _ _⟩
theorem iHeap_any (b off cap : Nat) (l : List Ev) (w : World) (hl : l.length ≤ 1048576) (hI : EvsAt w b off l) :
    Calls Try.prog 25 #[.slice (some ⟨b, off, none⟩) l.length cap] w fun e w' => Says e (GoodH l) ∧ Below w.heap.size w w' := iHeap_parts _ cap b l w hl (.inr ⟨off, rfl, hI⟩) hI.1
end Go.Proofs.Ythklekjglocbgab
