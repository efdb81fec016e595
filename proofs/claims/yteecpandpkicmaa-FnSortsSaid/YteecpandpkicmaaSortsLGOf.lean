/- The program's HeapOf over slices of any room; the answer is a row of its own. -/
import Derived.Test.YteecpandpkicmaaSortsLPushAll
import Derived.Test.YteecpandpkicmaaSortsG26
import Derived.Test.YteecpandpkicmaaSortsG09
import Derived.Test.YteecpandpkicmaaSortsG05
import Derived.Test.YteecpandpkicmaaSortsG29
namespace Go.Proofs.Yteecpandpkicmaa
open Go.RowKit
def One1L (l : List Ev) (i : Nat) : Prop := (evAt l i).ok = true ∧ ∀ j, j < i → (evAt l j).g ≠ (evAt l i).g
def OneL (l : List Ev) : Prop := l.length ≤ 2000 ∧ ∀ i, i < l.length → One1L l i
def AnsLR (l : List Ev) (B : Nat) (e : Ending) (w' : World) : Prop := (OneL l ∧ AnswersR B (l.foldl pushL []) true e w') ∨ (¬ OneL l ∧ AnswersR B [] false e w')
set_option maxRecDepth 100000 in
set_option maxHeartbeats 4000000 in
theorem gOf_any (a : Option Addr) (cap b : Nat) (l : List Ev) (w : World) (hl : l.length ≤ 1048576) (hR : l = [] ∨ ∃ off, a = some ⟨b, off, none⟩ ∧ EvsAt w b off l) (hgw : b < w.heap.size) :
    Calls Try.prog 22 #[.slice a l.length cap] w fun e w' => AnsLR l w.heap.size e w' ∧ Below w.heap.size w w' := by
  have HR : Hid (l = [] ∨ ∃ off, a = some ⟨b, off, none⟩ ∧ EvsAt w b off l) := hR
  clear hR
  by_cases h0 : l.length ≤ 2000
  · have hd : ¬ ((2000 : Int) < (l.length : Int)) := by omega
    have hd2 : decide ((2000 : Int) < (l.length : Int)) = false := by simp; omega
    have hd3 : decide (2000 < l.length) = false := by simp; omega
    have hme := fun w P => m_events P w
    go_enter Try.func22, Try.ntmps22
    go_wp2_with fail
    refine (eventsOk_any a _ b l _ hl HR.out hgw).mono ?_
    rintro e w1 ⟨⟨b1, rfl, hs1⟩, hb1⟩
    have HS1 : Hid (b1 = true ↔ ∀ i, i < l.length → (evAt l i).ok = true) := hs1
    clear hs1
    have HB1 : Hid (Below w.heap.size w w1) := hb1
    have HR1 : Hid (l = [] ∨ ∃ off, a = some ⟨b, off, none⟩ ∧ EvsAt w1 b off l) := parts_below HR.out hgw hb1
    have hg1 : b < w1.heap.size := by have := hb1.size; omega
    clear hb1 HR
    cases b1
    · go_wp2
      go_ret2
      exact ⟨.inr ⟨fun h => (by have := HS1.out.2 (fun i hi => (h.2 i hi).1); cases this), _, rfl, OwnR.nil _ _⟩, HB1.out⟩
    · have HOK : Hid (∀ i, i < l.length → (evAt l i).ok = true) := HS1.out.1 rfl
      clear HS1
      go_wp2_with fail
      refine (tagsDiffer_any a _ b l _ hl HR1.out hg1 (fun i hi => okB_tag (HOK.out i hi))).mono ?_
      rintro e w2 ⟨⟨b2, rfl, hs2⟩, hb2⟩
      have HS2 : Hid (b2 = true ↔ ∀ i, i < l.length → ∀ j, j < i → (evAt l j).g ≠ (evAt l i).g) := hs2
      have HB2 : Hid (Below w.heap.size w w2) := HB1.out.trans (hb2.mono HB1.out.size)
      have HR2 : Hid (l = [] ∨ ∃ off, a = some ⟨b, off, none⟩ ∧ EvsAt w2 b off l) := parts_below HR1.out hg1 hb2
      have hg2 : b < w2.heap.size := by have := hb2.size; omega
      clear hs2 hb2 HR1
      cases b2
      · go_wp2
        go_ret2
        exact ⟨.inr ⟨fun h => (by have := HS2.out.2 (fun i hi => (h.2 i hi).2); cases this), _, rfl, OwnR.nil _ _⟩, HB2.out⟩
      · have HO2 : Hid (∀ i, i < l.length → ∀ j, j < i → (evAt l j).g ≠ (evAt l i).g) := HS2.out.1 rfl
        clear HS2
        go_wp2_with fail
        refine (pileOf_any (.slice none 0 0) [] _ (by simp) (.inl ⟨rfl, rfl⟩)).mono ?_
        rintro e w3 ⟨P, v, rfl, hp3, hb3⟩
        have HP3 : Hid (Pl w3 w2.heap.size P v []) := hp3
        have HB3 : Hid (Below w2.heap.size w2 w3) := hb3
        have HR3 : Hid (l = [] ∨ ∃ off, a = some ⟨b, off, none⟩ ∧ EvsAt w3 b off l) := parts_below HR2.out hg2 hb3
        have hg3 : b < w3.heap.size := by have := hb3.size; omega
        have HPA : Hid (Calls Try.prog 41 #[pv P, .slice a l.length cap] w3 fun e w' => e = .returned (.bool true) ∧ (∃ v', Pl w' w2.heap.size P v' (l.foldl pushL []) ∧ NewRow w3 v v') ∧ Turns (fun k => k = P ∨ v.ownBlock = some k) w3 w') :=
          pushAll_ok w2.heap.size P v [] a cap b l w3 h0 hb3.size hp3 HR3.out hg3 (by have := hp3.low; omega) (fun e => by have := (OwnR.block hp3.row e).1; omega) (by simpa using h0) (fun j hj => by simp at hj) HOK.out (fun i hi j hj => by simp at hj)
        have HLO : Hid (w2.heap.size ≤ P ∧ ∀ k, v.ownBlock = some k → w2.heap.size ≤ k) := ⟨hp3.low, fun k e => (OwnR.block hp3.row e).1⟩
        clear hp3 hb3 HR2
        go_wp2_with fail
        refine HPA.out.mono ?_
        rintro e w4 ⟨rfl, ⟨v4, hp4, _⟩, ht4⟩
        have HP4 : Hid (Pl w4 w2.heap.size P v4 (l.foldl pushL [])) := hp4
        have HB4 : Hid (Below w.heap.size w w4) := HB2.out.trans ((HB3.out.trans (ht4.to_below (fun k h => by rcases h with rfl | h; exact HLO.out.1; exact HLO.out.2 k h) HB3.out.size)).mono HB2.out.size)
        clear hp4 ht4 HPA
        go_wp2_with fail
        refine (events_any w2.heap.size P v4 (l.foldl pushL []) _ (by rw [fold_length]; simp; omega) HP4.out).mono ?_
        rintro e w5 ⟨y, rfl, hy, hb5⟩
        have HY : Hid (OwnR w4.heap.size w5 y (l.foldl pushL [])) := hy
        have HB5 : Hid (Below w.heap.size w w5) := HB4.out.trans (hb5.mono HB4.out.size)
        clear hy hb5
        go_wp2
        go_ret2
        exact ⟨.inl ⟨⟨h0, fun i hi => ⟨HOK.out i hi, HO2.out i hi⟩⟩, ans_ofR HB4.out HB4.out.size HY.out⟩, HB5.out⟩
  · have hd : (2000 : Int) < (l.length : Int) := by omega
    go_enter Try.func22, Try.ntmps22
    go_wp2
    go_ret2
    exact ⟨.inr ⟨fun h => h0 h.1, _, rfl, OwnR.nil _ _⟩, Below.refl _ _⟩
end Go.Proofs.Yteecpandpkicmaa
