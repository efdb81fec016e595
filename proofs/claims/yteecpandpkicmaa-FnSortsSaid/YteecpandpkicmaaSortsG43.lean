/- First, OfG -/
import Derived.Test.YteecpandpkicmaaSortsG14
import Derived.Test.YteecpandpkicmaaSortsLPushAll
import Derived.Test.YteecpandpkicmaaSortsG26
import Derived.Test.YteecpandpkicmaaSortsG09
import Derived.Test.YteecpandpkicmaaSortsG05
/- The two First. -/
namespace Go.Proofs.Yteecpandpkicmaa
open Go.RowKit

set_option maxHeartbeats 1000000 in
theorem iFirst_yes (b off cap : Nat) (l : List Ev) (w : World) (hl : l.length ≤ 1048576) (hI : EvsAt w b off l) (_hcap : l.length ≤ cap) (_hcm : cap ≤ maxLen) (hne : 0 < l.length) (hg : GoodQ l) :
    Calls Try.prog 11 #[.slice (some ⟨b, off, none⟩) l.length cap] w fun e w' => e = .returned (.tuple #[(evAt l 0).val, .bool true]) ∧ Below w.heap.size w w' := by
  have hB0 : Below w.heap.size w (w.alloc (.cells #[.int .i64 0, .int .i64 0, .int .i64 0, .int .i64 0, .int .i64 0, .int .i64 0, .int .i64 0] 25)) := (Below.refl _ w).alloc (Nat.le_refl _) _
  have HI : Hid (EvsAt (w.alloc (.cells #[.int .i64 0, .int .i64 0, .int .i64 0, .int .i64 0, .int .i64 0, .int .i64 0, .int .i64 0] 25)) b off l) := hI.below hB0 hI.1
  have hb := hI.1
  have HG : Hid (GoodQ l) := hg
  clear hI hg
  have hlen : ((l.length : Int) == 0) = false := beq_eq_false_iff_ne.2 (by omega)
  have hpos : (0 : Int) < (l.length : Int) := by omega
  have hn0 : ¬ l.length = 0 := by omega
  go_enter Try.func11, Try.ntmps11
  go_wp2_with fail
  refine (iQueue_parts _ cap b l _ hl (.inr ⟨off, rfl, HI.out⟩) HI.out.1).mono ?_
  rintro e w1 ⟨⟨bb, rfl, hs⟩, hb1⟩
  have hbb : bb = true := hs.2 HG.out
  subst hbb
  clear hs
  have hz1 : w.heap.size < w1.heap.size := by have := hb1.size; simp at this; omega
  obtain ⟨z0, z1, z2, z3, z4, z5, z6⟩ := ((EvAt.new w 25 0 0 0 0 0 0 0).below hb1 (by simp)).lits
  have hfz : ∀ o, w1.frozen? ⟨w.heap.size, o, none⟩ = false := fun o => (hb1.frozen (p := ⟨w.heap.size, o, none⟩) (by simp)).trans (by simp)
  obtain ⟨f0, f1, f2, f3, f4, f5, f6⟩ := (HI.out.2 0 hne).below hb1 (by simp; omega)
  simp only [Nat.zero_mul, Nat.add_zero] at f0 f1 f2 f3 f4 f5 f6
  have HB1 : Hid (Below w.heap.size w w1) := hB0.trans (hb1.mono (by simp))
  clear hb1 hB0
  go_wp2
  exact bodyPost_ret (v := .tuple #[(evAt l 0).val, .bool true]) (by simp [results, Try.results11, go_sem, z0, z1, z2, z3, z4, z5, z6]) rfl ⟨rfl, put7_below HB1.out (Nat.le_refl _) 0 (evAt l 0)⟩

set_option maxHeartbeats 1000000 in
theorem iFirst_bad (b off cap : Nat) (l : List Ev) (w : World) (hl : l.length ≤ 1048576) (hI : EvsAt w b off l) (_hcap : l.length ≤ cap) (_hcm : cap ≤ maxLen) (hne : 0 < l.length) (hg : ¬ GoodQ l) :
    Calls Try.prog 11 #[.slice (some ⟨b, off, none⟩) l.length cap] w fun e w' => e = .returned (.tuple #[.agg #[.int .i64 0, .int .i64 0, .int .i64 0, .int .i64 0, .int .i64 0, .int .i64 0, .int .i64 0], .bool false]) ∧ Below w.heap.size w w' := by
  have hB0 : Below w.heap.size w (w.alloc (.cells #[.int .i64 0, .int .i64 0, .int .i64 0, .int .i64 0, .int .i64 0, .int .i64 0, .int .i64 0] 25)) := (Below.refl _ w).alloc (Nat.le_refl _) _
  have HI : Hid (EvsAt (w.alloc (.cells #[.int .i64 0, .int .i64 0, .int .i64 0, .int .i64 0, .int .i64 0, .int .i64 0, .int .i64 0] 25)) b off l) := hI.below hB0 hI.1
  have hb := hI.1
  have HG : Hid (¬ GoodQ l) := hg
  clear hI hg
  have hlen : ((l.length : Int) == 0) = false := beq_eq_false_iff_ne.2 (by omega)
  have hpos : (0 : Int) < (l.length : Int) := by omega
  have hn0 : ¬ l.length = 0 := by omega
  go_enter Try.func11, Try.ntmps11
  go_wp2_with fail
  refine (iQueue_parts _ cap b l _ hl (.inr ⟨off, rfl, HI.out⟩) HI.out.1).mono ?_
  rintro e w1 ⟨⟨bb, rfl, hs⟩, hb1⟩
  have hbb : bb = false := by cases bb with | false => rfl | true => exact (HG.out (hs.1 rfl)).elim
  subst hbb
  clear hs
  have hz1 : w.heap.size < w1.heap.size := by have := hb1.size; simp at this; omega
  obtain ⟨z0, z1, z2, z3, z4, z5, z6⟩ := ((EvAt.new w 25 0 0 0 0 0 0 0).below hb1 (by simp)).lits
  have hfz : ∀ o, w1.frozen? ⟨w.heap.size, o, none⟩ = false := fun o => (hb1.frozen (p := ⟨w.heap.size, o, none⟩) (by simp)).trans (by simp)
  have HB1 : Hid (Below w.heap.size w w1) := hB0.trans (hb1.mono (by simp))
  clear hb1 hB0
  go_wp2
  exact bodyPost_ret (v := .tuple #[.agg #[.int .i64 0, .int .i64 0, .int .i64 0, .int .i64 0, .int .i64 0, .int .i64 0, .int .i64 0], .bool false]) (by simp [results, Try.results11, go_sem, z0, z1, z2, z3, z4, z5, z6]) rfl ⟨rfl, put7_below HB1.out (Nat.le_refl _) 0 (⟨0, 0, 0, 0, 0, 0, 0⟩ : Ev)⟩

set_option maxHeartbeats 1000000 in
theorem iFirst_nil (a : Option Addr) (cap : Nat) (w : World) :
    Calls Try.prog 11 #[.slice a 0 cap] w fun e w' => e = .returned (.tuple #[.agg #[.int .i64 0, .int .i64 0, .int .i64 0, .int .i64 0, .int .i64 0, .int .i64 0, .int .i64 0], .bool false]) ∧ Below w.heap.size w w' := by
  go_enter Try.func11, Try.ntmps11
  go_wp2
  exact bodyPost_ret (v := .tuple #[.agg #[.int .i64 0, .int .i64 0, .int .i64 0, .int .i64 0, .int .i64 0, .int .i64 0, .int .i64 0], .bool false]) (by simp [results, Try.results11, go_sem]) rfl ⟨rfl, (Below.refl _ w).alloc (Nat.le_refl _) _⟩

/- Both give the same, whatever the list. -/
end Go.Proofs.Yteecpandpkicmaa

/- The program's HeapOf over slices of any room. -/
namespace Go.Proofs.Yteecpandpkicmaa
open Go.RowKit
def Good1L (l : List Ev) (i : Nat) : Prop := (evAt l i).ok = true ∧ ∀ j, j < i → (evAt l j).g ≠ (evAt l i).g
def GoodL (l : List Ev) : Prop := l.length ≤ 2000 ∧ ∀ i, i < l.length → Good1L l i
def AnsL (l : List Ev) (B : Nat) (e : Ending) (w' : World) : Prop := (GoodL l ∧ Answers B (l.foldl pushL []) true e w') ∨ (¬ GoodL l ∧ Answers B [] false e w')
set_option maxRecDepth 100000 in
set_option maxHeartbeats 4000000 in
theorem iOf_gen (a : Option Addr) (cap b : Nat) (l : List Ev) (w : World) (hl : l.length ≤ 1048576) (hR : l = [] ∨ ∃ off, a = some ⟨b, off, none⟩ ∧ EvsAt w b off l) (hgw : b < w.heap.size) :
    Calls Try.prog 22 #[.slice a l.length cap] w fun e w' => AnsL l w.heap.size e w' ∧ Below w.heap.size w w' := by
  have HR : Hid (l = [] ∨ ∃ off, a = some ⟨b, off, none⟩ ∧ EvsAt w b off l) := hR
  clear hR
  by_cases h0 : l.length ≤ 2000
  · have hd : ¬ ((2000 : Int) < (l.length : Int)) := by omega
    have hd2 : decide ((2000 : Int) < (l.length : Int)) = false := by simp; omega
    have hd3 : decide (2000 < l.length) = false := by simp; omega
    have hme := fun w P => m_events P w
    go_enter Try.func22, Try.ntmps22
    go_wp2_with fail
    refine (eventsOk_any a _ b l _ hl HR.out hgw).mono ?_
    rintro e w1 ⟨⟨b1, rfl, hs1⟩, hb1⟩
    have HS1 : Hid (b1 = true ↔ ∀ i, i < l.length → (evAt l i).ok = true) := hs1
    clear hs1
    have HB1 : Hid (Below w.heap.size w w1) := hb1
    have HR1 : Hid (l = [] ∨ ∃ off, a = some ⟨b, off, none⟩ ∧ EvsAt w1 b off l) := parts_below HR.out hgw hb1
    have hg1 : b < w1.heap.size := by have := hb1.size; omega
    clear hb1 HR
    cases b1
    · go_wp2
      go_ret2
      exact ⟨.inr ⟨fun h => (by have := HS1.out.2 (fun i hi => (h.2 i hi).1); cases this), _, rfl, OwnEvs.nil _ _⟩, HB1.out⟩
    · have HOK : Hid (∀ i, i < l.length → (evAt l i).ok = true) := HS1.out.1 rfl
      clear HS1
      go_wp2_with fail
      refine (tagsDiffer_any a _ b l _ hl HR1.out hg1 (fun i hi => okB_tag (HOK.out i hi))).mono ?_
      rintro e w2 ⟨⟨b2, rfl, hs2⟩, hb2⟩
      have HS2 : Hid (b2 = true ↔ ∀ i, i < l.length → ∀ j, j < i → (evAt l j).g ≠ (evAt l i).g) := hs2
      have HB2 : Hid (Below w.heap.size w w2) := HB1.out.trans (hb2.mono HB1.out.size)
      have HR2 : Hid (l = [] ∨ ∃ off, a = some ⟨b, off, none⟩ ∧ EvsAt w2 b off l) := parts_below HR1.out hg1 hb2
      have hg2 : b < w2.heap.size := by have := hb2.size; omega
      clear hs2 hb2 HR1
      cases b2
      · go_wp2
        go_ret2
        exact ⟨.inr ⟨fun h => (by have := HS2.out.2 (fun i hi => (h.2 i hi).2); cases this), _, rfl, OwnEvs.nil _ _⟩, HB2.out⟩
      · have HO2 : Hid (∀ i, i < l.length → ∀ j, j < i → (evAt l j).g ≠ (evAt l i).g) := HS2.out.1 rfl
        clear HS2
        go_wp2_with fail
        refine (pileOf_any (.slice none 0 0) [] _ (by simp) (.inl ⟨rfl, rfl⟩)).mono ?_
        rintro e w3 ⟨P, v, rfl, hp3, hb3⟩
        have HP3 : Hid (Pl w3 w2.heap.size P v []) := hp3
        have HB3 : Hid (Below w2.heap.size w2 w3) := hb3
        have HR3 : Hid (l = [] ∨ ∃ off, a = some ⟨b, off, none⟩ ∧ EvsAt w3 b off l) := parts_below HR2.out hg2 hb3
        have hg3 : b < w3.heap.size := by have := hb3.size; omega
        have HPA : Hid (Calls Try.prog 41 #[pv P, .slice a l.length cap] w3 fun e w' => e = .returned (.bool true) ∧ (∃ v', Pl w' w2.heap.size P v' (l.foldl pushL []) ∧ NewRow w3 v v') ∧ Turns (fun k => k = P ∨ v.ownBlock = some k) w3 w') :=
          pushAll_ok w2.heap.size P v [] a cap b l w3 h0 hb3.size hp3 HR3.out hg3 (by have := hp3.low; omega) (fun e => by have := (OwnR.block hp3.row e).1; omega) (by simpa using h0) (fun j hj => by simp at hj) HOK.out (fun i hi j hj => by simp at hj)
        have HLO : Hid (w2.heap.size ≤ P ∧ ∀ k, v.ownBlock = some k → w2.heap.size ≤ k) := ⟨hp3.low, fun k e => (OwnR.block hp3.row e).1⟩
        clear hp3 hb3 HR2
        go_wp2_with fail
        refine HPA.out.mono ?_
        rintro e w4 ⟨rfl, ⟨v4, hp4, _⟩, ht4⟩
        have HP4 : Hid (Pl w4 w2.heap.size P v4 (l.foldl pushL [])) := hp4
        have HB4 : Hid (Below w.heap.size w w4) := HB2.out.trans ((HB3.out.trans (ht4.to_below (fun k h => by rcases h with rfl | h; exact HLO.out.1; exact HLO.out.2 k h) HB3.out.size)).mono HB2.out.size)
        clear hp4 ht4 HPA
        go_wp2_with fail
        refine (events_any w2.heap.size P v4 (l.foldl pushL []) _ (by rw [fold_length]; simp; omega) HP4.out).mono ?_
        rintro e w5 ⟨y, rfl, hy, hb5⟩
        have HY : Hid (OwnR w4.heap.size w5 y (l.foldl pushL [])) := hy
        have HB5 : Hid (Below w.heap.size w w5) := HB4.out.trans (hb5.mono HB4.out.size)
        clear hy hb5
        go_wp2
        go_ret2
        exact ⟨.inl ⟨⟨h0, fun i hi => ⟨HOK.out i hi, HO2.out i hi⟩⟩, ans_of HB4.out HB4.out.size HY.out⟩, HB5.out⟩
  · have hd : (2000 : Int) < (l.length : Int) := by omega
    go_enter Try.func22, Try.ntmps22
    go_wp2
    go_ret2
    exact ⟨.inr ⟨fun h => h0 h.1, _, rfl, OwnEvs.nil _ _⟩, Below.refl _ _⟩
end Go.Proofs.Yteecpandpkicmaa

