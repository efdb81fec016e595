/- RemI, Marks, Answers -/
import Derived.Test.YteecpandpkicmaaSortsG02
import Derived.Test.YteecpandpkicmaaSortsG09
import Derived.Test.YteecpandpkicmaaSortsG14
import Derived.Maps.OwnSet
import Derived.Deep.RegionWith
import Derived.Test.YteecpandpkicmaaSortsG01
import Derived.Test.YteecpandpkicmaaSortsG00
/- The program's Remove. -/
namespace Go.Proofs.Yteecpandpkicmaa
open Go.RowKit Go.Maps Go.WideShapes

theorem cell_drew_new (w : World) (C : Array Value) (T : TypeId) (i : Nat) : (w.drew.alloc (.cells C T)).cell? ⟨w.heap.size, i, none⟩ = C[i]? := by
  have h : (w.drew.alloc (.cells C T)).heap[w.heap.size]? = some (.cells C T) := (MapKept.heap_alloc w.drew (.cells C T)).1
  generalize w.drew.alloc (.cells C T) = W at h ⊢
  simp [World.cell?, h]
theorem concat2 (B : Nat) (p1 p2 : Part) (w : World) (h1 : p1.l.length + p2.l.length ≤ 4194304) (hP : PartsAt w B [p1, p2]) :
    Calls Try.prog 33 #[.slice (some ⟨B, 0, none⟩) 2 2] w fun e w' => ∃ x, e = .returned x ∧ OwnEvs w.heap.size w' x (p1.l ++ p2.l) ∧ Below w.heap.size w w' := by
  have h := concat_any B [p1, p2] w (by simp) (by simpa [catTo, partAt] using h1) hP
  simpa [catTo, partAt] using h

set_option maxHeartbeats 2000000 in
theorem iRemove_bad (b off cap : Nat) (l : List Ev) (tag : Int) (w : World) (hl : l.length ≤ 1048576) (hI : EvsAt w b off l) (hg : ¬ GoodQ l) :
    Calls Try.prog 10 #[.slice (some ⟨b, off, none⟩) l.length cap, .int .i64 tag] w fun e w' => e = .returned (.tuple #[.slice none 0 0, .bool false]) ∧ Below w.heap.size w w' := by
  have HI : Hid (EvsAt w b off l) := hI
  have HG : Hid (¬ GoodQ l) := hg
  clear hI hg
  go_enter Try.func10, Try.ntmps10
  go_wp2_with fail
  refine (iQueue_parts _ _ b l _ hl (.inr ⟨off, rfl, HI.out⟩) HI.out.1).mono ?_
  rintro e w1 ⟨⟨bb, rfl, hs⟩, hb1⟩
  have hbb : bb = false := by cases bb with | false => rfl | true => exact (HG.out (hs.1 rfl)).elim
  subst hbb
  clear hs
  go_wp2
  go_ret2
  exact ⟨rfl, hb1⟩

set_option maxHeartbeats 2000000 in
theorem iRemove_none (b off cap : Nat) (l : List Ev) (tag : Int) (w : World) (hl : l.length ≤ 1048576) (hI : EvsAt w b off l) (hg : GoodQ l) (ht : wfI tag) (hno : NoTag l tag) :
    Calls Try.prog 10 #[.slice (some ⟨b, off, none⟩) l.length cap, .int .i64 tag] w fun e w' => ∃ x, e = .returned (.tuple #[x, .bool false]) ∧ OwnEvs w.heap.size w' x l ∧ Below w.heap.size w w' := by
  have HI : Hid (EvsAt w b off l) := hI
  have HG : Hid (GoodQ l) := hg
  have HT : Hid (wfI tag) := ht
  have hb := hI.1
  have hhas : Maps.has (placesD (H := Unit) l (List.finRange l.length)) (keyL tag) = false := has_no (fun i hi => okB_tag (hg.2 i hi).1) ht hno
  clear hI hg ht
  go_enter Try.func10, Try.ntmps10
  go_wp2_with fail
  refine (iQueue_parts _ _ b l _ hl (.inr ⟨off, rfl, HI.out⟩) HI.out.1).mono ?_
  rintro e w1 ⟨⟨bb, rfl, hs⟩, hb1⟩
  have hbb : bb = true := hs.2 HG.out
  subst hbb
  clear hs
  have HB1 : Hid (Below w.heap.size w w1) := hb1
  have HI1 : Hid (EvsAt w1 b off l) := HI.out.below hb1 hb
  clear hb1
  have hz1 : b < w1.heap.size := HI1.out.1
  go_wp2_with fail
  refine (places_any (H := Unit) _ _ b l _ hl (.inr ⟨off, rfl, HI1.out⟩) hz1 (fun i hi => okB_tag (HG.out.2 i hi).1)).mono ?_
  rintro e w2 ⟨rfl, hown2, hb2⟩
  have HO2 : Hid (w2.ownsMap Try.prog 25 (plainElem (H := Unit) Try.prog 3) w1.heap.size l.length (placesD l (List.finRange l.length))) := hown2
  have HB2 : Hid (Below w.heap.size w w2) := HB1.out.trans (hb2.mono HB1.out.size)
  have hz2 : w1.heap.size < w2.heap.size := by obtain ⟨es, ck, h1, _⟩ := hown2; exact (Array.getElem?_eq_some_iff.1 h1).1
  clear hown2 hb2
  go_wp2_with fail
  refine (tagKey_any tag _).mono ?_
  rintro e w3 ⟨rfl, hb3⟩
  have HO3 : Hid (w3.ownsMap Try.prog 25 (plainElem (H := Unit) Try.prog 3) w1.heap.size l.length (placesD l (List.finRange l.length))) := ownsMap_below HO2.out hb3 hz2
  have HB3 : Hid (Below w.heap.size w w3) := HB2.out.trans (hb3.mono HB2.out.size)
  clear hb3 HO2 HB1 HI1
  have HI3 : Hid (EvsAt w3 b off l) := HI.out.below HB3.out hb
  go_wp2_with (at_lookup; refine wpList_lookup_own_ok_int _ rfl _ _ 51 rfl 25 3 .i64 keyed25 Try.underlying51 Try.underlying3 (Try.zeroValue3 _) w1.heap.size l.length _ rfl HO3.out _ _ rfl (keyOf_tag tag HT.out) ?_; intro c hat hwc)
  refine (copyOf_any b off _ l _ hl HI3.out).mono ?_
  rintro e w4 ⟨x, rfl, hx4, hb4⟩
  have HX4 : Hid (OwnEvs w.heap.size w4 x l) := by
    obtain ⟨a, cap, e, h1, h2, h⟩ := hx4
    exact ⟨a, cap, e, h1, h2, h.imp id (fun ⟨g, e, hg, hr⟩ => ⟨g, e, Nat.le_trans HB3.out.size hg, hr⟩)⟩
  clear hx4
  go_wp2
  go_ret2
  exact ⟨x, rfl, HX4.out, HB3.out.trans (hb4.mono HB3.out.size)⟩

set_option maxHeartbeats 4000000 in
theorem iRemove_some (b off cap : Nat) (l : List Ev) (tag : Int) (k : Nat) (w : World) (hcap : l.length ≤ cap) (hl : l.length ≤ 1048576) (hI : EvsAt w b off l) (hg : GoodQ l) (ht : wfI tag) (hat : FirstAt l tag k) :
    Calls Try.prog 10 #[.slice (some ⟨b, off, none⟩) l.length cap, .int .i64 tag] w fun e w' => ∃ x, e = .returned (.tuple #[x, .bool true]) ∧ OwnEvs w.heap.size w' x (l.take k ++ l.drop (k + 1)) ∧ Below w.heap.size w w' := by
  have HI : Hid (EvsAt w b off l) := hI
  have HG : Hid (GoodQ l) := hg
  have HT : Hid (wfI tag) := ht
  have hb := hI.1
  have hk : k < l.length := hat.1
  have hyes := has_yes (fun i hi => okB_tag (hg.2 i hi).1) ht (fun i hi => (hg.2 i hi).2.2) hat
  have hhas : Maps.has (placesD (H := Unit) l (List.finRange l.length)) (keyL tag) = true := hyes.1
  have HC : Hid (∀ c : Int, (placesD (H := Unit) l (List.finRange l.length)).atKey (keyL tag) (.lit (.int .i64 0)) = .lit (.int .i64 c) → c = (k : Int)) := hyes.2
  clear hI hg ht hat hyes
  go_enter Try.func10, Try.ntmps10
  go_wp2_with fail
  refine (iQueue_parts _ _ b l _ hl (.inr ⟨off, rfl, HI.out⟩) HI.out.1).mono ?_
  rintro e w1 ⟨⟨bb, rfl, hs⟩, hb1⟩
  have hbb : bb = true := hs.2 HG.out
  subst hbb
  clear hs
  have HB1 : Hid (Below w.heap.size w w1) := hb1
  have HI1 : Hid (EvsAt w1 b off l) := HI.out.below hb1 hb
  clear hb1
  have hz1 : b < w1.heap.size := HI1.out.1
  go_wp2_with fail
  refine (places_any (H := Unit) _ _ b l _ hl (.inr ⟨off, rfl, HI1.out⟩) hz1 (fun i hi => okB_tag (HG.out.2 i hi).1)).mono ?_
  rintro e w2 ⟨rfl, hown2, hb2⟩
  have HO2 : Hid (w2.ownsMap Try.prog 25 (plainElem (H := Unit) Try.prog 3) w1.heap.size l.length (placesD l (List.finRange l.length))) := hown2
  have HB2 : Hid (Below w.heap.size w w2) := HB1.out.trans (hb2.mono HB1.out.size)
  have hz2 : w1.heap.size < w2.heap.size := by obtain ⟨es, ck, h1, _⟩ := hown2; exact (Array.getElem?_eq_some_iff.1 h1).1
  clear hown2 hb2
  go_wp2_with fail
  refine (tagKey_any tag _).mono ?_
  rintro e w3 ⟨rfl, hb3⟩
  have HO3 : Hid (w3.ownsMap Try.prog 25 (plainElem (H := Unit) Try.prog 3) w1.heap.size l.length (placesD l (List.finRange l.length))) := ownsMap_below HO2.out hb3 hz2
  have HB3 : Hid (Below w.heap.size w w3) := HB2.out.trans (hb3.mono HB2.out.size)
  clear hb3 HO2 HB1 HI1
  have HI3 : Hid (EvsAt w3 b off l) := HI.out.below HB3.out hb
  go_wp2_with (at_lookup; refine wpList_lookup_own_ok_int _ rfl _ _ 51 rfl 25 3 .i64 keyed25 Try.underlying51 Try.underlying3 (Try.zeroValue3 _) w1.heap.size l.length _ rfl HO3.out _ _ rfl (keyOf_tag tag HT.out) ?_; intro c hat hwc; obtain rfl := HC.out c hat; clear hat hwc)
  clear HO3 HC hhas
  have hk1 : (k : Int) < (l.length : Int) := by omega
  have hk2 : (k : Int) ≤ (l.length : Int) := by omega
  have hk3 : (k : Int) + 1 ≤ (l.length : Int) := by omega
  have hk4 : (0 : Int) ≤ (k : Int) + 1 := by omega
  have hk5 : IntKind.i64.wrap ((k : Int) + 1) = (k : Int) + 1 := by rw [IntKind.wrap_i64]; omega
  have hk6 : ((k : Int) + 1).toNat = k + 1 := by omega
  have hk7 : (k : Int) ≤ (cap : Int) := by omega
  have hk8 : (l.length : Int) ≤ (cap : Int) := by omega
  by_cases hend : cap = k + 1
  · have hend' : l.length = k + 1 := by omega
    have hdrop : l.drop (k + 1) = [] := List.drop_eq_nil_of_le (by omega)
    have HD : Hid (l.drop (k + 1) = []) := hdrop
    clear hdrop
    have hq : (k : Int) ≤ (k : Int) + 1 := by omega
    have hz3 : w.heap.size ≤ w3.heap.size := HB3.out.size
    have HPT : Hid (PartsAt (w3.drew.alloc (.cells #[.slice (some ⟨b, off, none⟩) k (k + 1), .slice (some ⟨b, off, none⟩) 0 0] 23)) w3.heap.size [⟨some ⟨b, off, none⟩, (k + 1), l.take k⟩, ⟨some ⟨b, off, none⟩, 0, []⟩]) := by
      have hBw : Below w3.heap.size w3 (w3.drew.alloc (.cells #[.slice (some ⟨b, off, none⟩) k (k + 1), .slice (some ⟨b, off, none⟩) 0 0] 23)) := (Below.refl _ w3).drew.alloc (Nat.le_refl _) _
      refine ⟨by simp, fun i hi => ?_⟩
      have h2 : i = 0 ∨ i = 1 := by simp at hi; omega
      rcases h2 with rfl | rfl
      · exact ⟨by rw [cell_drew_new]; simp [partAt, Nat.min_eq_left (by omega : k ≤ l.length)], .inr ⟨b, off, rfl, .inr ((HI3.out.take k).below hBw HI3.out.1)⟩⟩
      · exact ⟨by rw [cell_drew_new]; simp [partAt], .inr ⟨b, off, rfl, .inl rfl⟩⟩
    go_wp2
    go_region_with (go_at_call 33; refine (concat2 w3.heap.size ⟨some ⟨b, off, none⟩, (k + 1), l.take k⟩ ⟨some ⟨b, off, none⟩, 0, []⟩ _ ?_ HPT.out).mono ?_; (simp; omega); rintro e w4 ⟨x, rfl, hx4, hb4⟩)
    go_wp2
    go_ret2
    refine ⟨x, rfl, ?_, (HB3.out.drew.alloc (by simpa using hz3) _).trans (hb4.mono (by simp; omega))⟩
    obtain ⟨a, cap, e, h1, h2, h⟩ := hx4
    simp only [List.append_nil] at e h1 h
    rw [HD.out, List.append_nil]
    exact ⟨a, cap, e, h1, h2, h.imp id (fun ⟨g, e, hg, hr⟩ => ⟨g, e, by simp at hg; omega, hr⟩)⟩
  · have hz3 : w.heap.size ≤ w3.heap.size := HB3.out.size
    have HPT : Hid (PartsAt (w3.drew.alloc (.cells #[.slice (some ⟨b, off, none⟩) k cap, .slice (some ⟨b, off + (k + 1) * 7, none⟩) (l.length - (k + 1)) (cap - (k + 1))] 23)) w3.heap.size [⟨some ⟨b, off, none⟩, cap, l.take k⟩, ⟨some ⟨b, off + (k + 1) * 7, none⟩, cap - (k + 1), l.drop (k + 1)⟩]) := by
      have hBw : Below w3.heap.size w3 (w3.drew.alloc (.cells #[.slice (some ⟨b, off, none⟩) k cap, .slice (some ⟨b, off + (k + 1) * 7, none⟩) (l.length - (k + 1)) (cap - (k + 1))] 23)) := (Below.refl _ w3).drew.alloc (Nat.le_refl _) _
      refine ⟨by simp, fun i hi => ?_⟩
      have h2 : i = 0 ∨ i = 1 := by simp at hi; omega
      rcases h2 with rfl | rfl
      · exact ⟨by rw [cell_drew_new]; simp [partAt, Nat.min_eq_left (by omega : k ≤ l.length)], .inr ⟨b, off, rfl, .inr ((HI3.out.take k).below hBw HI3.out.1)⟩⟩
      · exact ⟨by rw [cell_drew_new]; simp [partAt], .inr ⟨b, _, rfl, .inr ((HI3.out.drop (k + 1)).below hBw HI3.out.1)⟩⟩
    go_wp2
    go_region_with (go_at_call 33; refine (concat2 w3.heap.size ⟨some ⟨b, off, none⟩, cap, l.take k⟩ ⟨some ⟨b, off + (k + 1) * 7, none⟩, cap - (k + 1), l.drop (k + 1)⟩ _ ?_ HPT.out).mono ?_; (simp; omega); rintro e w4 ⟨x, rfl, hx4, hb4⟩)
    go_wp2
    go_ret2
    refine ⟨x, rfl, ?_, (HB3.out.drew.alloc (by simpa using hz3) _).trans (hb4.mono (by simp; omega))⟩
    obtain ⟨a, cap, e, h1, h2, h⟩ := hx4
    exact ⟨a, cap, e, h1, h2, h.imp id (fun ⟨g, e, hg, hr⟩ => ⟨g, e, by simp at hg; omega, hr⟩)⟩

end Go.Proofs.Yteecpandpkicmaa

/- markEventS writes numbers into every cell of a row; heldEventS finds them there. -/
namespace Go.Proofs.Yteecpandpkicmaa
open Go.RowKit
def markEv (z : Int) : Ev := ⟨z, z + 1, z + 1 + 1, z + 1 + 1 + 1, z + 1 + 1 + 1 + 1, z + 1 + 1 + 1 + 1 + 1, z + 1 + 1 + 1 + 1 + 1 + 1⟩
def marks (n : Nat) : List Ev := (List.range n).map fun i : Nat => markEv (7 * ((i : Nat) : Int) + 1)
theorem marks_length (n : Nat) : (marks n).length = n := by simp [marks]
theorem marks_at {n i : Nat} (h : i < n) : evAt (marks n) i = markEv (7 * (i : Int) + 1) := by simp [evAt, marks, h]
theorem put7_grown (w : World) (g o : Nat) (e : Ev) : w.grownBy (put7 w g o e) (some g) :=
  grown_trans (grown_trans (grown_trans (grown_trans (grown_trans (grown_trans (setCell_grown _ _ _ _) (setCell_grown _ _ _ _)) (setCell_grown _ _ _ _)) (setCell_grown _ _ _ _)) (setCell_grown _ _ _ _)) (setCell_grown _ _ _ _)) (setCell_grown _ _ _ _)

end Go.Proofs.Yteecpandpkicmaa

/- What a function that gives a list and a flag answers. -/
namespace Go.Proofs.Yteecpandpkicmaa
open Go.RowKit

/- What the two functions of this kind answer: a list of one's own and a flag. -/
def Answers (B : Nat) (l' : List Ev) (bb : Bool) (e : Ending) (w' : World) : Prop := ∃ x, e = .returned (.tuple #[x, .bool bb]) ∧ OwnEvs B w' x l'
theorem OwnEvs.nil (B : Nat) (w : World) : OwnEvs B w (.slice none 0 0) [] := ⟨none, 0, rfl, Nat.le_refl _, by unfold maxLen; omega, .inl rfl⟩
theorem OwnEvs.mono {B B' : Nat} {w : World} {x : Value} {l : List Ev} (h : OwnEvs B w x l) (hB : B' ≤ B) : OwnEvs B' w x l := by
  obtain ⟨a, cap, e, h1, h2, h⟩ := h
  exact ⟨a, cap, e, h1, h2, h.imp id (fun ⟨g, e, hg, hr⟩ => ⟨g, e, Nat.le_trans hB hg, hr⟩)⟩

theorem firstAt_unique {l : List Ev} {tag : Int} {i j : Nat} (h : FirstAt l tag i) (h' : FirstAt l tag j) : i = j := by
  rcases Nat.lt_trichotomy i j with h1 | h1 | h1
  · exact absurd h.2.1 (h'.2.2 i h1)
  · exact h1
  · exact absurd h'.2.1 (h.2.2 j h1)

end Go.Proofs.Yteecpandpkicmaa

